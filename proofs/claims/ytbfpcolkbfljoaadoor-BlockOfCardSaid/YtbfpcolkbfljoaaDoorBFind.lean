/-
  Where a signal stands in a list: the walks of find and stands of the program's blocks.
-/
import Derived.Test.YtbfpcolkbfljoaaDoorBVal
namespace Go.Proofs.YtbfpcolkbfljoaaDoor
open Go.RowKit

theorem fb_start (s : Sg) (t p o : Int) (w : World) : Below w.heap.size w ((w.alloc (.cells #[.int .i64 s.t, .int .i64 s.p, .int .i64 s.o, .int .i64 s.k] 32)).alloc (.cells #[.int .i64 t, .int .i64 p, .int .i64 o] 50)) ∧ w.heap.size + 1 < ((w.alloc (.cells #[.int .i64 s.t, .int .i64 s.p, .int .i64 s.o, .int .i64 s.k] 32)).alloc (.cells #[.int .i64 t, .int .i64 p, .int .i64 o] 50)).heap.size ∧ ((w.alloc (.cells #[.int .i64 s.t, .int .i64 s.p, .int .i64 s.o, .int .i64 s.k] 32)).alloc (.cells #[.int .i64 t, .int .i64 p, .int .i64 o] 50)).cell? ⟨w.heap.size, 0, none⟩ = some (.int .i64 s.t) ∧ ((w.alloc (.cells #[.int .i64 s.t, .int .i64 s.p, .int .i64 s.o, .int .i64 s.k] 32)).alloc (.cells #[.int .i64 t, .int .i64 p, .int .i64 o] 50)).cell? ⟨w.heap.size, 1, none⟩ = some (.int .i64 s.p) ∧ ((w.alloc (.cells #[.int .i64 s.t, .int .i64 s.p, .int .i64 s.o, .int .i64 s.k] 32)).alloc (.cells #[.int .i64 t, .int .i64 p, .int .i64 o] 50)).cell? ⟨w.heap.size, 2, none⟩ = some (.int .i64 s.o) ∧ ((w.alloc (.cells #[.int .i64 s.t, .int .i64 s.p, .int .i64 s.o, .int .i64 s.k] 32)).alloc (.cells #[.int .i64 t, .int .i64 p, .int .i64 o] 50)).cell? ⟨w.heap.size, 3, none⟩ = some (.int .i64 s.k) ∧ ((w.alloc (.cells #[.int .i64 s.t, .int .i64 s.p, .int .i64 s.o, .int .i64 s.k] 32)).alloc (.cells #[.int .i64 t, .int .i64 p, .int .i64 o] 50)).cell? ⟨w.heap.size + 1, 0, none⟩ = some (.int .i64 t) ∧ ((w.alloc (.cells #[.int .i64 s.t, .int .i64 s.p, .int .i64 s.o, .int .i64 s.k] 32)).alloc (.cells #[.int .i64 t, .int .i64 p, .int .i64 o] 50)).cell? ⟨w.heap.size + 1, 1, none⟩ = some (.int .i64 p) ∧ ((w.alloc (.cells #[.int .i64 s.t, .int .i64 s.p, .int .i64 s.o, .int .i64 s.k] 32)).alloc (.cells #[.int .i64 t, .int .i64 p, .int .i64 o] 50)).cell? ⟨w.heap.size + 1, 2, none⟩ = some (.int .i64 o) :=
  ⟨Joins.below_alloc2 _ _ _, by simp, by simp, by simp, by simp, by simp, by simp, by simp, by simp⟩
theorem fb_keep {s : Sg} {t p o : Int} {w wr w' : World} (h : Below w.heap.size w wr ∧ w.heap.size + 1 < wr.heap.size ∧ wr.cell? ⟨w.heap.size, 0, none⟩ = some (.int .i64 s.t) ∧ wr.cell? ⟨w.heap.size, 1, none⟩ = some (.int .i64 s.p) ∧ wr.cell? ⟨w.heap.size, 2, none⟩ = some (.int .i64 s.o) ∧ wr.cell? ⟨w.heap.size, 3, none⟩ = some (.int .i64 s.k) ∧ wr.cell? ⟨w.heap.size + 1, 0, none⟩ = some (.int .i64 t) ∧ wr.cell? ⟨w.heap.size + 1, 1, none⟩ = some (.int .i64 p) ∧ wr.cell? ⟨w.heap.size + 1, 2, none⟩ = some (.int .i64 o)) (hb : Below wr.heap.size wr w') : Below w.heap.size w w' ∧ w.heap.size + 1 < w'.heap.size ∧ w'.cell? ⟨w.heap.size, 0, none⟩ = some (.int .i64 s.t) ∧ w'.cell? ⟨w.heap.size, 1, none⟩ = some (.int .i64 s.p) ∧ w'.cell? ⟨w.heap.size, 2, none⟩ = some (.int .i64 s.o) ∧ w'.cell? ⟨w.heap.size, 3, none⟩ = some (.int .i64 s.k) ∧ w'.cell? ⟨w.heap.size + 1, 0, none⟩ = some (.int .i64 t) ∧ w'.cell? ⟨w.heap.size + 1, 1, none⟩ = some (.int .i64 p) ∧ w'.cell? ⟨w.heap.size + 1, 2, none⟩ = some (.int .i64 o) :=
  have h0 : w.heap.size < wr.heap.size := by have := h.2.1; omega
  ⟨step h.1 hb, Nat.lt_of_lt_of_le h.2.1 hb.size, (hb.cell (p := ⟨w.heap.size, 0, none⟩) h0).trans h.2.2.1, (hb.cell (p := ⟨w.heap.size, 1, none⟩) h0).trans h.2.2.2.1, (hb.cell (p := ⟨w.heap.size, 2, none⟩) h0).trans h.2.2.2.2.1, (hb.cell (p := ⟨w.heap.size, 3, none⟩) h0).trans h.2.2.2.2.2.1, (hb.cell (p := ⟨w.heap.size + 1, 0, none⟩) h.2.1).trans h.2.2.2.2.2.2.1, (hb.cell (p := ⟨w.heap.size + 1, 1, none⟩) h.2.1).trans h.2.2.2.2.2.2.2.1, (hb.cell (p := ⟨w.heap.size + 1, 2, none⟩) h.2.1).trans h.2.2.2.2.2.2.2.2⟩

set_option maxRecDepth 20000 in
set_option maxHeartbeats 3200000 in
theorem findc_any (s : Sg) (t p o c : Int) (hc : c = c3 s.t s.p s.o t p o) (w : World) : Calls Tryd.prog 98 #[sgv s, sv t p o] w fun e w' => e = .returned (.int .i64 c) ∧ Below w.heap.size w w' := by
  have HC := hid hc
  have HP := hid (fb_start s t p o w)
  clear hc
  go_enter Tryd.func98, Tryd.ntmps98
  go_upto_region 1 with fail
  generalize World.alloc (World.alloc w _) _ = wm at HP ⊢
  refine wp_region_held_drew (S := (fun wr => Below w.heap.size w wr ∧ w.heap.size + 1 < wr.heap.size ∧ wr.cell? ⟨w.heap.size, 0, none⟩ = some (.int .i64 s.t) ∧ wr.cell? ⟨w.heap.size, 1, none⟩ = some (.int .i64 s.p) ∧ wr.cell? ⟨w.heap.size, 2, none⟩ = some (.int .i64 s.o) ∧ wr.cell? ⟨w.heap.size, 3, none⟩ = some (.int .i64 s.k) ∧ wr.cell? ⟨w.heap.size + 1, 0, none⟩ = some (.int .i64 t) ∧ wr.cell? ⟨w.heap.size + 1, 1, none⟩ = some (.int .i64 p) ∧ wr.cell? ⟨w.heap.size + 1, 2, none⟩ = some (.int .i64 o))) (by kernel_rfl) (fb_keep HP.out ((Below.refl _ _).drew)) (fun hHeld => ?_)
  refine wpAnyH_take (i := 0) (oi := { dst := some 5, op := Op.load 32 (Operand.tmp 2), type := 32, pos := "block.go:82", after := #[], guard := none }) (v := ?_) rfl (by kernel_rfl) (by kernel_rfl) (by kernel_rfl) (fun _ _ _ h => h) (Or.inl ⟨by rfl, ?_⟩) (by assumption) ?_
  rotate_left
  · intro w hSw; (try dsimp only at hSw); go_simp; try (with_reducible rfl)
  try simp only [Act.put, List.setIfInBounds_toArray, List.set_cons_zero, List.set_cons_succ]
  refine wpAnyH_take (i := 2) (oi := { dst := some 7, op := Op.load 50 (Operand.tmp 3), type := 50, pos := "block.go:82", after := #[], guard := none }) (v := ?_) rfl (by kernel_rfl) (by kernel_rfl) (by kernel_rfl) (fun _ _ _ h => h) (Or.inl ⟨by rfl, ?_⟩) (by assumption) ?_
  rotate_left
  · intro w hSw; (try dsimp only at hSw); go_simp; try (with_reducible rfl)
  try simp only [Act.put, List.setIfInBounds_toArray, List.set_cons_zero, List.set_cons_succ]
  refine wpAnyH_ready (rs := [1]) (by kernel_rfl) (by simp) ?_
  refine AllReadyH.cons (o := { dst := some 6, op := Op.call { callee := Callee.value (Operand.func 57), args := #[Operand.tmp 5], argTypes := #[32] }, type := 50, pos := "block.go:82", after := #[{ on := 0, ground := Ground.data }], guard := none }) rfl (fun K hK => ?_) AllReadyH.nil
  go_simp
  refine (spot_any _ _ _ _ _).mono ?_
  rintro r w' ⟨rfl, hb⟩
  try go_wp2_with fail
  refine hK.out _ _ (fb_keep (by assumption) hb) (fun hHeld2 => ?_)
  clear hK K
  try simp only [Act.put, List.setIfInBounds_toArray, List.set_cons_zero, List.set_cons_succ]
  refine wpAnyH_ready (rs := [3]) (by kernel_rfl) (by simp) ?_
  refine AllReadyH.cons (o := { dst := some 8, op := Op.call { callee := Callee.value (Operand.func 95), args := #[Operand.tmp 6, Operand.tmp 7], argTypes := #[50, 50] }, type := 3, pos := "block.go:82", after := #[{ on := 1, ground := Ground.data }, { on := 2, ground := Ground.data }, { on := 1, ground := Ground.chain }], guard := none }) rfl (fun K hK => ?_) AllReadyH.nil
  go_simp
  refine (compare_any _ _ _ _ _ _ c HC.out _).mono ?_
  rintro r w' ⟨rfl, hb⟩
  try go_wp2_with fail
  refine hK.out _ _ (fb_keep (by assumption) hb) (fun hHeld3 => ?_)
  clear hK K
  try simp only [Act.put, List.setIfInBounds_toArray, List.set_cons_zero, List.set_cons_succ]
  refine wpAnyH_take (i := 4) (oi := { dst := some 4, op := Op.assign (Operand.tmp 8), type := 3, pos := "block.go:82", after := #[{ on := 3, ground := Ground.data }, { on := 3, ground := Ground.chain }, { on := 0, ground := Ground.phase }, { on := 1, ground := Ground.phase }, { on := 2, ground := Ground.phase }, { on := 3, ground := Ground.phase }], guard := none }) (v := ?_) rfl (by kernel_rfl) (by kernel_rfl) (by kernel_rfl) (fun _ _ _ h => h) (Or.inl ⟨by rfl, ?_⟩) (by assumption) ?_
  rotate_left
  · intro w hSw; (try dsimp only at hSw); go_simp; try (with_reducible rfl)
  try simp only [Act.put, List.setIfInBounds_toArray, List.set_cons_zero, List.set_cons_succ]
  refine wpAnyH_done (by kernel_rfl) ?_ _
  go_wp2_with fail
  go_ret
  exact ⟨rfl, off_below (by assumption)⟩

/-- Where the spot stands in a list, and whether a signal is there. -/
structure FindIs (l : Nat) (S : Nat → Sg) (t p o : Int) (k : Nat) (f : Bool) : Prop where
  le : k ≤ l
  low : ∀ i, i < k → Lss (S i).t (S i).p (S i).o t p o
  high : ∀ i, k ≤ i → i < l → ¬ Lss (S i).t (S i).p (S i).o t p o
  hit : f = true ↔ k < l ∧ (S k).t = t ∧ (S k).p = p ∧ (S k).o = o
theorem AscS.lt {l : Nat} {S : Nat → Sg} (h : AscS l S) {i j : Nat} (hij : i < j) (hj : j < l) : Less (S i) (S j) := by
  induction j with
  | zero => omega
  | succ j ih =>
    by_cases e : i = j
    · subst e; exact h i hj
    · exact Lss.trans (ih (by omega) (by omega)) (h j hj)
theorem FindIs.ex {l : Nat} {S : Nat → Sg} (h : AscS l S) (t p o : Int) : ∃ k f, FindIs l S t p o k f := by
  have hk : ∀ q, q ≤ l → ∃ k, k ≤ q ∧ (∀ i, i < k → Lss (S i).t (S i).p (S i).o t p o) ∧ ∀ i, k ≤ i → i < q → ¬ Lss (S i).t (S i).p (S i).o t p o := by
    intro q
    induction q with
    | zero => intro _; exact ⟨0, Nat.le_refl _, fun i hi => by omega, fun i _ hi => by omega⟩
    | succ q ih =>
      intro hq
      obtain ⟨k, h1, h2, h3⟩ := ih (by omega)
      by_cases hl : Lss (S q).t (S q).p (S q).o t p o
      · by_cases e : k = q
        · subst e
          refine ⟨k + 1, Nat.le_refl _, fun i hi => ?_, fun i hi hi' => by omega⟩
          by_cases e : i = k
          · subst e; exact hl
          · exact h2 i (by omega)
        · exact absurd (Lss.trans (h.lt (show k < q by omega) (by omega)) hl) (h3 k (Nat.le_refl _) (by omega))
      · refine ⟨k, by omega, h2, fun i hi hi' => ?_⟩
        by_cases e : i = q
        · subst e; exact hl
        · exact h3 i hi (by omega)
  obtain ⟨k, h1, h2, h3⟩ := hk l (Nat.le_refl _)
  by_cases hf : k < l ∧ (S k).t = t ∧ (S k).p = p ∧ (S k).o = o
  · exact ⟨k, true, h1, h2, h3, fun _ => hf, fun _ => rfl⟩
  · exact ⟨k, false, h1, h2, h3, fun h => (by cases h), fun h => absurd h hf⟩
/-- A signal of the list that stands at the spot is the one that is found. -/
theorem FindIs.found {l : Nat} {S : Nat → Sg} {t p o : Int} {k : Nat} {f : Bool} (h : FindIs l S t p o k f) (ha : AscS l S) {i : Nat} (hi : i < l) (e1 : (S i).t = t) (e2 : (S i).p = p) (e3 : (S i).o = o) : i = k ∧ f = true := by
  have h1 : ¬ i < k := fun hk => by
    have := h.low i hk
    rw [e1, e2, e3] at this
    exact this.irrefl
  have h2 : ¬ k < i := fun hk => by
    have := ha.lt hk hi
    unfold Less at this
    rw [e1, e2, e3] at this
    exact h.high k (Nat.le_refl _) (by omega) this
  obtain rfl : i = k := by omega
  exact ⟨rfl, h.hit.2 ⟨hi, e1, e2, e3⟩⟩
theorem FindIs.iff {l : Nat} {S : Nat → Sg} {t p o : Int} {k : Nat} {f : Bool} (h : FindIs l S t p o k f) (ha : AscS l S) : f = true ↔ ∃ i, i < l ∧ (S i).t = t ∧ (S i).p = p ∧ (S i).o = o :=
  ⟨fun hf => ⟨k, h.hit.1 hf⟩, fun ⟨_, hi, e1, e2, e3⟩ => (h.found ha hi e1 e2 e3).2⟩

theorem fs_keep {bl y h : Nat} {S : Nat → Sg} {t p o : Int} {w wr w' : World} (hbz : bl < w.heap.size) (hh : Below w.heap.size w wr ∧ w.heap.size < wr.heap.size ∧ wr.cell? ⟨w.heap.size, 0, none⟩ = some (.int .i64 t) ∧ wr.cell? ⟨w.heap.size, 1, none⟩ = some (.int .i64 p) ∧ wr.cell? ⟨w.heap.size, 2, none⟩ = some (.int .i64 o) ∧ wr.cell? ⟨bl, y, none⟩ = some (.int .i64 (S h).t) ∧ wr.cell? ⟨bl, y + 1, none⟩ = some (.int .i64 (S h).p) ∧ wr.cell? ⟨bl, y + 2, none⟩ = some (.int .i64 (S h).o) ∧ wr.cell? ⟨bl, y + 3, none⟩ = some (.int .i64 (S h).k)) (hb : Below wr.heap.size wr w') : Below w.heap.size w w' ∧ w.heap.size < w'.heap.size ∧ w'.cell? ⟨w.heap.size, 0, none⟩ = some (.int .i64 t) ∧ w'.cell? ⟨w.heap.size, 1, none⟩ = some (.int .i64 p) ∧ w'.cell? ⟨w.heap.size, 2, none⟩ = some (.int .i64 o) ∧ w'.cell? ⟨bl, y, none⟩ = some (.int .i64 (S h).t) ∧ w'.cell? ⟨bl, y + 1, none⟩ = some (.int .i64 (S h).p) ∧ w'.cell? ⟨bl, y + 2, none⟩ = some (.int .i64 (S h).o) ∧ w'.cell? ⟨bl, y + 3, none⟩ = some (.int .i64 (S h).k) :=
  have a : ∀ i, w'.cell? ⟨w.heap.size, i, none⟩ = wr.cell? ⟨w.heap.size, i, none⟩ := fun i => hb.cell (p := ⟨w.heap.size, i, none⟩) hh.2.1
  have b : ∀ i, w'.cell? ⟨bl, i, none⟩ = wr.cell? ⟨bl, i, none⟩ := fun i => hb.cell (p := ⟨bl, i, none⟩) (Nat.lt_trans hbz hh.2.1)
  ⟨step hh.1 hb, Nat.lt_of_lt_of_le hh.2.1 hb.size, (a 0).trans hh.2.2.1, (a 1).trans hh.2.2.2.1, (a 2).trans hh.2.2.2.2.1, (b _).trans hh.2.2.2.2.2.1, (b _).trans hh.2.2.2.2.2.2.1, (b _).trans hh.2.2.2.2.2.2.2.1, (b _).trans hh.2.2.2.2.2.2.2.2⟩
/-- The target's box. -/
structure TB (t p o : Int) (w wr : World) : Prop where
  below : Below w.heap.size w wr
  size : w.heap.size < wr.heap.size
  c0 : wr.cell? ⟨w.heap.size, 0, none⟩ = some (.int .i64 t)
  c1 : wr.cell? ⟨w.heap.size, 1, none⟩ = some (.int .i64 p)
  c2 : wr.cell? ⟨w.heap.size, 2, none⟩ = some (.int .i64 o)
theorem TB.start (t p o : Int) (w : World) : TB t p o w (w.alloc (.cells #[.int .i64 t, .int .i64 p, .int .i64 o] 50)) := ⟨Joins.below_alloc1 _ _, by simp, by simp, by simp, by simp⟩
theorem TB.stays {t p o : Int} {w wr w' : World} (h : TB t p o w wr) (hb : Below wr.heap.size wr w') : TB t p o w w' :=
  ⟨step h.below hb, Nat.lt_of_lt_of_le h.size hb.size, (hb.cell (p := ⟨w.heap.size, 0, none⟩) h.size).trans h.c0, (hb.cell (p := ⟨w.heap.size, 1, none⟩) h.size).trans h.c1, (hb.cell (p := ⟨w.heap.size, 2, none⟩) h.size).trans h.c2⟩
theorem fs_start {bl y h : Nat} {S : Nat → Sg} {t p o : Int} {w wr : World} (hT : TB t p o w wr) (D : wr.cell? ⟨bl, y, none⟩ = some (.int .i64 (S h).t) ∧ wr.cell? ⟨bl, y + 1, none⟩ = some (.int .i64 (S h).p) ∧ wr.cell? ⟨bl, y + 2, none⟩ = some (.int .i64 (S h).o) ∧ wr.cell? ⟨bl, y + 3, none⟩ = some (.int .i64 (S h).k)) : Below w.heap.size w wr ∧ w.heap.size < wr.heap.size ∧ wr.cell? ⟨w.heap.size, 0, none⟩ = some (.int .i64 t) ∧ wr.cell? ⟨w.heap.size, 1, none⟩ = some (.int .i64 p) ∧ wr.cell? ⟨w.heap.size, 2, none⟩ = some (.int .i64 o) ∧ wr.cell? ⟨bl, y, none⟩ = some (.int .i64 (S h).t) ∧ wr.cell? ⟨bl, y + 1, none⟩ = some (.int .i64 (S h).p) ∧ wr.cell? ⟨bl, y + 2, none⟩ = some (.int .i64 (S h).o) ∧ wr.cell? ⟨bl, y + 3, none⟩ = some (.int .i64 (S h).k) := ⟨hT.below, hT.size, hT.c0, hT.c1, hT.c2, D⟩
theorem fs_tb {t p o : Int} {w wr : World} {q : Prop} (h : Below w.heap.size w wr ∧ w.heap.size < wr.heap.size ∧ wr.cell? ⟨w.heap.size, 0, none⟩ = some (.int .i64 t) ∧ wr.cell? ⟨w.heap.size, 1, none⟩ = some (.int .i64 p) ∧ wr.cell? ⟨w.heap.size, 2, none⟩ = some (.int .i64 o) ∧ q) : TB t p o w wr := ⟨h.1, h.2.1, h.2.2.1, h.2.2.2.1, h.2.2.2.2.1⟩

set_option maxRecDepth 20000 in
set_option maxHeartbeats 6400000 in
theorem search_any (lo : Option Addr) (l lcap : Nat) (S : Nat → Sg) (hl : l ≤ 300) (t p o : Int) (k : Nat) (f : Bool) (hF : FindIs l S t p o k f) (w : World) (hS : SigsAt w lo l S) :
    Calls Tryd.prog 97 #[.slice lo l lcap, sv t p o, .func (.func 98) #[] #[]] w fun r w' => r = .returned (.tuple #[.int .i64 k, .bool f]) ∧ Below w.heap.size w w' := by
  have HF := hid hF
  have HS := hid hS
  have HTB := hid (TB.start t p o w)
  have hkl := hF.le
  have hl0 : (0 : Int) ≤ (l : Int) := by omega
  clear hF hS
  go_enter Tryd.func97, Tryd.ntmps97
  go_upto_region 1 with fail
  generalize World.alloc w _ = wm at HTB ⊢
  go_wp2_with fail
  go_loopw [9, 10] (fun iv jv wr => ∃ i j : Nat, i ≤ k ∧ k ≤ j ∧ j ≤ l ∧ iv = .int .i64 i ∧ jv = .int .i64 j ∧ Hid (TB t p o w wr)) (fun iv jv _ => (intOf jv).toNat - (intOf iv).toNat)
  case atStart => exact ⟨0, l, Nat.zero_le _, hkl, Nat.le_refl _, rfl, rfl, HTB⟩
  case round =>
    clear HTB
    obtain ⟨i, j, hik, hkj, hjl, rfl, rfl, HTB⟩ := hrel
    by_cases hlt : i < j
    · obtain ⟨h, hh⟩ : ∃ h, h = (i + j) / 2 := ⟨_, rfl⟩
      have hhl : h < l := by omega
      have hih : i ≤ h := by omega
      have hhj : h < j := by omega
      have q1 : ((i : Int) + (j : Int)) / 2 = (h : Int) := by omega
      have q2 : IntKind.i64.wrap ((i : Int) + (j : Int)) = (i : Int) + (j : Int) := by rw [IntKind.wrap_i64]; omega
      have q3 : IntKind.u64.wrap ((i : Int) + (j : Int)) = (i : Int) + (j : Int) := by rw [IntKind.wrap_u64]; omega
      have HHQ := hid hh
      clear hh
      obtain ⟨bl, off, rfl, hbz, D⟩ := HS.out h hhl
      obtain ⟨y, hy⟩ : ∃ y, y = off + h * 4 := ⟨_, rfl⟩
      rw [← hy] at D
      have ey : off + h * 4 = y := hy.symm
      have D1 := hid D
      have e1 : (0 : Int) ≤ (h : Int) := by omega
      have e2 : (h : Int) < (l : Int) := by omega
      obtain ⟨c, hcc⟩ : ∃ c, c = c3 (S h).t (S h).p (S h).o t p o := ⟨_, rfl⟩
      have HC := hid hcc
      clear hy hcc D
      by_cases hneg : c < 0
      · have HL : Hid (h < k) := hid (by
          by_cases hk : h < k
          · exact hk
          · exact absurd ((c3_neg _ _ _ _ _ _).1 (by rw [← HC.out]; exact hneg)) (HF.out.high h (by omega) hhl))
        go_upto_region 5 with fail
        refine wp_region_held_drew (S := (fun wr => Below w.heap.size w wr ∧ w.heap.size < wr.heap.size ∧ wr.cell? ⟨w.heap.size, 0, none⟩ = some (.int .i64 t) ∧ wr.cell? ⟨w.heap.size, 1, none⟩ = some (.int .i64 p) ∧ wr.cell? ⟨w.heap.size, 2, none⟩ = some (.int .i64 o) ∧ wr.cell? ⟨bl, y, none⟩ = some (.int .i64 (S h).t) ∧ wr.cell? ⟨bl, y + 1, none⟩ = some (.int .i64 (S h).p) ∧ wr.cell? ⟨bl, y + 2, none⟩ = some (.int .i64 (S h).o) ∧ wr.cell? ⟨bl, y + 3, none⟩ = some (.int .i64 (S h).k))) (by kernel_rfl) (fs_keep hbz (fs_start HTB.out (by have D2 := D1.out; exact ⟨(HTB.out.below.cell (p := ⟨bl, _, none⟩) hbz).trans D2.1, (HTB.out.below.cell (p := ⟨bl, _, none⟩) hbz).trans D2.2.1, (HTB.out.below.cell (p := ⟨bl, _, none⟩) hbz).trans D2.2.2.1, (HTB.out.below.cell (p := ⟨bl, _, none⟩) hbz).trans D2.2.2.2⟩)) ((Below.refl _ _).drew)) (fun hHeld => ?_)
        refine wpAnyH_take (i := 0) (oi := { dst := some 24, op := Op.move (Operand.tmp 2), type := 127, pos := "sort.go:160", after := #[], guard := none }) (v := ?_) rfl (by kernel_rfl) (by kernel_rfl) (by kernel_rfl) (fun _ _ _ h => h) (Or.inl ⟨by rfl, ?_⟩) (by assumption) ?_
        rotate_left
        · intro w hSw; (try dsimp only at hSw); go_simp; try (with_reducible rfl)
        try simp only [Act.put, List.setIfInBounds_toArray, List.set_cons_zero, List.set_cons_succ]
        refine wpAnyH_take (i := 1) (oi := { dst := some 25, op := Op.move (Operand.tmp 0), type := 94, pos := "sort.go:160", after := #[], guard := none }) (v := ?_) rfl (by kernel_rfl) (by kernel_rfl) (by kernel_rfl) (fun _ _ _ h => h) (Or.inl ⟨by rfl, ?_⟩) (by assumption) ?_
        rotate_left
        · intro w hSw; (try dsimp only at hSw); go_simp; try (with_reducible rfl)
        try simp only [Act.put, List.setIfInBounds_toArray, List.set_cons_zero, List.set_cons_succ]
        refine wpAnyH_take (i := 2) (oi := { dst := some 26, op := Op.move (Operand.tmp 11), type := 3, pos := "sort.go:160", after := #[], guard := none }) (v := ?_) rfl (by kernel_rfl) (by kernel_rfl) (by kernel_rfl) (fun _ _ _ h => h) (Or.inl ⟨by rfl, ?_⟩) (by assumption) ?_
        rotate_left
        · intro w hSw; (try dsimp only at hSw); go_simp; try (with_reducible rfl)
        try simp only [Act.put, List.setIfInBounds_toArray, List.set_cons_zero, List.set_cons_succ]
        refine wpAnyH_take (i := 3) (oi := { dst := some 27, op := Op.indexAddr 94 (Operand.tmp 25) (Operand.tmp 26), type := 0, pos := "sort.go:160", after := #[{ on := 1, ground := Ground.data }, { on := 2, ground := Ground.data }], guard := none }) (v := ?_) rfl (by kernel_rfl) (by kernel_rfl) (by kernel_rfl) (fun _ _ _ h => h) (Or.inl ⟨by rfl, ?_⟩) (by assumption) ?_
        rotate_left
        · intro w hSw; (try dsimp only at hSw); go_simp; try (with_reducible rfl)
        try simp only [Act.put, List.setIfInBounds_toArray, List.set_cons_zero, List.set_cons_succ]
        refine wpAnyH_take (i := 4) (oi := { dst := some 28, op := Op.load 32 (Operand.tmp 27), type := 32, pos := "sort.go:160", after := #[{ on := 3, ground := Ground.data }], guard := none }) (v := ?_) rfl (by kernel_rfl) (by kernel_rfl) (by kernel_rfl) (fun _ _ _ h => h) (Or.inl ⟨by rfl, ?_⟩) (by assumption) ?_
        rotate_left
        · intro w hSw; (try dsimp only at hSw); go_simp; try (with_reducible rfl)
        try simp only [Act.put, List.setIfInBounds_toArray, List.set_cons_zero, List.set_cons_succ]
        refine wpAnyH_take (i := 5) (oi := { dst := some 29, op := Op.load 50 (Operand.tmp 4), type := 50, pos := "sort.go:160", after := #[], guard := none }) (v := ?_) rfl (by kernel_rfl) (by kernel_rfl) (by kernel_rfl) (fun _ _ _ h => h) (Or.inl ⟨by rfl, ?_⟩) (by assumption) ?_
        rotate_left
        · intro w hSw; (try dsimp only at hSw); go_simp; try (with_reducible rfl)
        try simp only [Act.put, List.setIfInBounds_toArray, List.set_cons_zero, List.set_cons_succ]
        refine wpAnyH_ready (rs := [6]) (by kernel_rfl) (by simp) ?_
        refine AllReadyH.cons (o := { dst := some 30, op := Op.call { callee := Callee.value (Operand.tmp 24), args := #[Operand.tmp 28, Operand.tmp 29], argTypes := #[32, 50] }, type := 3, pos := "sort.go:160", after := #[{ on := 0, ground := Ground.data }, { on := 4, ground := Ground.data }, { on := 5, ground := Ground.data }], guard := none }) rfl (fun K hK => ?_) AllReadyH.nil
        go_simp
        refine (findc_any (S h) t p o c HC.out _).mono ?_
        rintro r w' ⟨rfl, hb⟩
        try go_wp2_with fail
        refine hK.out _ _ (fs_keep hbz (by assumption) hb) (fun hHeld2 => ?_)
        clear hK K
        try simp only [Act.put, List.setIfInBounds_toArray, List.set_cons_zero, List.set_cons_succ]
        refine wpAnyH_take (i := 7) (oi := { dst := some 31, op := Op.binOp BinOp.lss 3 (Operand.tmp 30) (Operand.const (Value.int IntKind.i64 0)) 3, type := 4, pos := "sort.go:160", after := #[{ on := 6, ground := Ground.data }], guard := none }) (v := ?_) rfl (by kernel_rfl) (by kernel_rfl) (by kernel_rfl) (fun _ _ _ h => h) (Or.inl ⟨by rfl, ?_⟩) (by assumption) ?_
        rotate_left
        · intro w hSw; (try dsimp only at hSw); go_simp; try (with_reducible rfl)
        try simp only [Act.put, List.setIfInBounds_toArray, List.set_cons_zero, List.set_cons_succ]
        refine wpAnyH_done (by kernel_rfl) ?_ _
        have HTB2 := hid (fs_tb (by assumption))
        clear ey e1 e2 D1 q1 q2 q3
        go_wp2_with fail
        exact ⟨⟨h + 1, j, HL.out, hkj, hjl, by go_num, rfl, HTB2⟩, by simp [intOf]; omega⟩
      · have hge : 0 ≤ c := by omega
        have HL : Hid (k ≤ h) := hid (by
          by_cases hk : k ≤ h
          · exact hk
          · exact absurd ((c3_neg _ _ _ _ _ _).2 (HF.out.low h (by omega))) (by rw [← HC.out]; exact hneg))
        go_upto_region 5 with fail
        refine wp_region_held_drew (S := (fun wr => Below w.heap.size w wr ∧ w.heap.size < wr.heap.size ∧ wr.cell? ⟨w.heap.size, 0, none⟩ = some (.int .i64 t) ∧ wr.cell? ⟨w.heap.size, 1, none⟩ = some (.int .i64 p) ∧ wr.cell? ⟨w.heap.size, 2, none⟩ = some (.int .i64 o) ∧ wr.cell? ⟨bl, y, none⟩ = some (.int .i64 (S h).t) ∧ wr.cell? ⟨bl, y + 1, none⟩ = some (.int .i64 (S h).p) ∧ wr.cell? ⟨bl, y + 2, none⟩ = some (.int .i64 (S h).o) ∧ wr.cell? ⟨bl, y + 3, none⟩ = some (.int .i64 (S h).k))) (by kernel_rfl) (fs_keep hbz (fs_start HTB.out (by have D2 := D1.out; exact ⟨(HTB.out.below.cell (p := ⟨bl, _, none⟩) hbz).trans D2.1, (HTB.out.below.cell (p := ⟨bl, _, none⟩) hbz).trans D2.2.1, (HTB.out.below.cell (p := ⟨bl, _, none⟩) hbz).trans D2.2.2.1, (HTB.out.below.cell (p := ⟨bl, _, none⟩) hbz).trans D2.2.2.2⟩)) ((Below.refl _ _).drew)) (fun hHeld => ?_)
        refine wpAnyH_take (i := 0) (oi := { dst := some 24, op := Op.move (Operand.tmp 2), type := 127, pos := "sort.go:160", after := #[], guard := none }) (v := ?_) rfl (by kernel_rfl) (by kernel_rfl) (by kernel_rfl) (fun _ _ _ h => h) (Or.inl ⟨by rfl, ?_⟩) (by assumption) ?_
        rotate_left
        · intro w hSw; (try dsimp only at hSw); go_simp; try (with_reducible rfl)
        try simp only [Act.put, List.setIfInBounds_toArray, List.set_cons_zero, List.set_cons_succ]
        refine wpAnyH_take (i := 1) (oi := { dst := some 25, op := Op.move (Operand.tmp 0), type := 94, pos := "sort.go:160", after := #[], guard := none }) (v := ?_) rfl (by kernel_rfl) (by kernel_rfl) (by kernel_rfl) (fun _ _ _ h => h) (Or.inl ⟨by rfl, ?_⟩) (by assumption) ?_
        rotate_left
        · intro w hSw; (try dsimp only at hSw); go_simp; try (with_reducible rfl)
        try simp only [Act.put, List.setIfInBounds_toArray, List.set_cons_zero, List.set_cons_succ]
        refine wpAnyH_take (i := 2) (oi := { dst := some 26, op := Op.move (Operand.tmp 11), type := 3, pos := "sort.go:160", after := #[], guard := none }) (v := ?_) rfl (by kernel_rfl) (by kernel_rfl) (by kernel_rfl) (fun _ _ _ h => h) (Or.inl ⟨by rfl, ?_⟩) (by assumption) ?_
        rotate_left
        · intro w hSw; (try dsimp only at hSw); go_simp; try (with_reducible rfl)
        try simp only [Act.put, List.setIfInBounds_toArray, List.set_cons_zero, List.set_cons_succ]
        refine wpAnyH_take (i := 3) (oi := { dst := some 27, op := Op.indexAddr 94 (Operand.tmp 25) (Operand.tmp 26), type := 0, pos := "sort.go:160", after := #[{ on := 1, ground := Ground.data }, { on := 2, ground := Ground.data }], guard := none }) (v := ?_) rfl (by kernel_rfl) (by kernel_rfl) (by kernel_rfl) (fun _ _ _ h => h) (Or.inl ⟨by rfl, ?_⟩) (by assumption) ?_
        rotate_left
        · intro w hSw; (try dsimp only at hSw); go_simp; try (with_reducible rfl)
        try simp only [Act.put, List.setIfInBounds_toArray, List.set_cons_zero, List.set_cons_succ]
        refine wpAnyH_take (i := 4) (oi := { dst := some 28, op := Op.load 32 (Operand.tmp 27), type := 32, pos := "sort.go:160", after := #[{ on := 3, ground := Ground.data }], guard := none }) (v := ?_) rfl (by kernel_rfl) (by kernel_rfl) (by kernel_rfl) (fun _ _ _ h => h) (Or.inl ⟨by rfl, ?_⟩) (by assumption) ?_
        rotate_left
        · intro w hSw; (try dsimp only at hSw); go_simp; try (with_reducible rfl)
        try simp only [Act.put, List.setIfInBounds_toArray, List.set_cons_zero, List.set_cons_succ]
        refine wpAnyH_take (i := 5) (oi := { dst := some 29, op := Op.load 50 (Operand.tmp 4), type := 50, pos := "sort.go:160", after := #[], guard := none }) (v := ?_) rfl (by kernel_rfl) (by kernel_rfl) (by kernel_rfl) (fun _ _ _ h => h) (Or.inl ⟨by rfl, ?_⟩) (by assumption) ?_
        rotate_left
        · intro w hSw; (try dsimp only at hSw); go_simp; try (with_reducible rfl)
        try simp only [Act.put, List.setIfInBounds_toArray, List.set_cons_zero, List.set_cons_succ]
        refine wpAnyH_ready (rs := [6]) (by kernel_rfl) (by simp) ?_
        refine AllReadyH.cons (o := { dst := some 30, op := Op.call { callee := Callee.value (Operand.tmp 24), args := #[Operand.tmp 28, Operand.tmp 29], argTypes := #[32, 50] }, type := 3, pos := "sort.go:160", after := #[{ on := 0, ground := Ground.data }, { on := 4, ground := Ground.data }, { on := 5, ground := Ground.data }], guard := none }) rfl (fun K hK => ?_) AllReadyH.nil
        go_simp
        refine (findc_any (S h) t p o c HC.out _).mono ?_
        rintro r w' ⟨rfl, hb⟩
        try go_wp2_with fail
        refine hK.out _ _ (fs_keep hbz (by assumption) hb) (fun hHeld2 => ?_)
        clear hK K
        try simp only [Act.put, List.setIfInBounds_toArray, List.set_cons_zero, List.set_cons_succ]
        refine wpAnyH_take (i := 7) (oi := { dst := some 31, op := Op.binOp BinOp.lss 3 (Operand.tmp 30) (Operand.const (Value.int IntKind.i64 0)) 3, type := 4, pos := "sort.go:160", after := #[{ on := 6, ground := Ground.data }], guard := none }) (v := ?_) rfl (by kernel_rfl) (by kernel_rfl) (by kernel_rfl) (fun _ _ _ h => h) (Or.inl ⟨by rfl, ?_⟩) (by assumption) ?_
        rotate_left
        · intro w hSw; (try dsimp only at hSw); go_simp; try (with_reducible rfl)
        try simp only [Act.put, List.setIfInBounds_toArray, List.set_cons_zero, List.set_cons_succ]
        refine wpAnyH_done (by kernel_rfl) ?_ _
        have HTB2 := hid (fs_tb (by assumption))
        clear ey e1 e2 D1 q1 q2 q3
        go_wp2_with fail
        exact ⟨⟨i, h, hik, HL.out, by omega, rfl, rfl, HTB2⟩, by simp [intOf]; omega⟩
    · obtain rfl : i = k := by omega
      obtain rfl : j = i := by omega
      clear hik hkj
      by_cases hl2 : j < l
      · obtain ⟨bl, off, rfl, hbz, D⟩ := HS.out j hl2
        obtain ⟨h, hh⟩ : ∃ h, h = j := ⟨_, rfl⟩
        obtain ⟨y, hy⟩ : ∃ y, y = off + j * 4 := ⟨_, rfl⟩
        rw [← hy, ← hh] at D
        have ey : off + j * 4 = y := hy.symm
        have D1 := hid D
        have e1 : (0 : Int) ≤ (j : Int) := by omega
        have e2 : (j : Int) < (l : Int) := by omega
        have e3 : decide ((j : Int) < (l : Int)) = true := by simp; omega
        obtain ⟨c, hcc⟩ : ∃ c, c = c3 (S h).t (S h).p (S h).o t p o := ⟨_, rfl⟩
        have HC := hid hcc
        have HFF : Hid ((c == 0) = f) := hid (by
          rw [Bool.eq_iff_iff, HF.out.hit, beq_iff_eq, hcc, c3_zero, hh]
          exact ⟨fun q => ⟨hl2, q⟩, fun q => q.2⟩)
        clear hy hcc D hh
        go_upto_region 8 with fail
        refine wp_region_held_drew (S := (fun wr => Below w.heap.size w wr ∧ w.heap.size < wr.heap.size ∧ wr.cell? ⟨w.heap.size, 0, none⟩ = some (.int .i64 t) ∧ wr.cell? ⟨w.heap.size, 1, none⟩ = some (.int .i64 p) ∧ wr.cell? ⟨w.heap.size, 2, none⟩ = some (.int .i64 o) ∧ wr.cell? ⟨bl, y, none⟩ = some (.int .i64 (S h).t) ∧ wr.cell? ⟨bl, y + 1, none⟩ = some (.int .i64 (S h).p) ∧ wr.cell? ⟨bl, y + 2, none⟩ = some (.int .i64 (S h).o) ∧ wr.cell? ⟨bl, y + 3, none⟩ = some (.int .i64 (S h).k))) (by kernel_rfl) (fs_keep hbz (fs_start HTB.out (by have D2 := D1.out; exact ⟨(HTB.out.below.cell (p := ⟨bl, _, none⟩) hbz).trans D2.1, (HTB.out.below.cell (p := ⟨bl, _, none⟩) hbz).trans D2.2.1, (HTB.out.below.cell (p := ⟨bl, _, none⟩) hbz).trans D2.2.2.1, (HTB.out.below.cell (p := ⟨bl, _, none⟩) hbz).trans D2.2.2.2⟩)) ((Below.refl _ _).drew)) (fun hHeld => ?_)
        refine wpAnyH_take (i := 0) (oi := { dst := some 35, op := Op.move (Operand.tmp 9), type := 3, pos := "sort.go:167", after := #[], guard := none }) (v := ?_) rfl (by kernel_rfl) (by kernel_rfl) (by kernel_rfl) (fun _ _ _ h => h) (Or.inl ⟨by rfl, ?_⟩) (by assumption) ?_
        rotate_left
        · intro w hSw; (try dsimp only at hSw); go_simp; try (with_reducible rfl)
        try simp only [Act.put, List.setIfInBounds_toArray, List.set_cons_zero, List.set_cons_succ]
        refine wpAnyH_take (i := 1) (oi := { dst := some 36, op := Op.move (Operand.tmp 9), type := 3, pos := "sort.go:167", after := #[], guard := none }) (v := ?_) rfl (by kernel_rfl) (by kernel_rfl) (by kernel_rfl) (fun _ _ _ h => h) (Or.inl ⟨by rfl, ?_⟩) (by assumption) ?_
        rotate_left
        · intro w hSw; (try dsimp only at hSw); go_simp; try (with_reducible rfl)
        try simp only [Act.put, List.setIfInBounds_toArray, List.set_cons_zero, List.set_cons_succ]
        refine wpAnyH_take (i := 2) (oi := { dst := some 37, op := Op.move (Operand.tmp 8), type := 3, pos := "sort.go:167", after := #[], guard := none }) (v := ?_) rfl (by kernel_rfl) (by kernel_rfl) (by kernel_rfl) (fun _ _ _ h => h) (Or.inl ⟨by rfl, ?_⟩) (by assumption) ?_
        rotate_left
        · intro w hSw; (try dsimp only at hSw); go_simp; try (with_reducible rfl)
        try simp only [Act.put, List.setIfInBounds_toArray, List.set_cons_zero, List.set_cons_succ]
        refine wpAnyH_take (i := 3) (oi := { dst := some 38, op := Op.binOp BinOp.lss 3 (Operand.tmp 36) (Operand.tmp 37) 3, type := 4, pos := "sort.go:167", after := #[{ on := 1, ground := Ground.data }, { on := 2, ground := Ground.data }], guard := none }) (v := ?_) rfl (by kernel_rfl) (by kernel_rfl) (by kernel_rfl) (fun _ _ _ h => h) (Or.inl ⟨by rfl, ?_⟩) (by assumption) ?_
        rotate_left
        · intro w hSw; (try dsimp only at hSw); go_simp; try (with_reducible rfl)
        try simp only [Act.put, List.setIfInBounds_toArray, List.set_cons_zero, List.set_cons_succ]
        refine wpAnyH_take (i := 4) (oi := { dst := some 39, op := Op.move (Operand.tmp 38), type := 4, pos := "sort.go:167", after := #[{ on := 3, ground := Ground.data }], guard := none }) (v := ?_) rfl (by kernel_rfl) (by kernel_rfl) (by kernel_rfl) (fun _ _ _ h => h) (Or.inl ⟨by rfl, ?_⟩) (by assumption) ?_
        rotate_left
        · intro w hSw; (try dsimp only at hSw); go_simp; try (with_reducible rfl)
        try simp only [Act.put, List.setIfInBounds_toArray, List.set_cons_zero, List.set_cons_succ]
        refine wpAnyH_take (i := 5) (oi := { dst := some 40, op := Op.move (Operand.tmp 2), type := 127, pos := "sort.go:167", after := #[{ on := 4, ground := Ground.guard }], guard := some (4, true) }) (v := ?_) rfl (by kernel_rfl) (by kernel_rfl) (by kernel_rfl) (fun _ _ _ h => h) (Or.inl ⟨by rfl, ?_⟩) (by assumption) ?_
        rotate_left
        · intro w hSw; (try dsimp only at hSw); go_simp; try (with_reducible rfl)
        try simp only [Act.put, List.setIfInBounds_toArray, List.set_cons_zero, List.set_cons_succ]
        refine wpAnyH_take (i := 6) (oi := { dst := some 41, op := Op.move (Operand.tmp 0), type := 94, pos := "sort.go:167", after := #[{ on := 4, ground := Ground.guard }], guard := some (4, true) }) (v := ?_) rfl (by kernel_rfl) (by kernel_rfl) (by kernel_rfl) (fun _ _ _ h => h) (Or.inl ⟨by rfl, ?_⟩) (by assumption) ?_
        rotate_left
        · intro w hSw; (try dsimp only at hSw); go_simp; try (with_reducible rfl)
        try simp only [Act.put, List.setIfInBounds_toArray, List.set_cons_zero, List.set_cons_succ]
        refine wpAnyH_take (i := 7) (oi := { dst := some 42, op := Op.move (Operand.tmp 9), type := 3, pos := "sort.go:167", after := #[{ on := 4, ground := Ground.guard }], guard := some (4, true) }) (v := ?_) rfl (by kernel_rfl) (by kernel_rfl) (by kernel_rfl) (fun _ _ _ h => h) (Or.inl ⟨by rfl, ?_⟩) (by assumption) ?_
        rotate_left
        · intro w hSw; (try dsimp only at hSw); go_simp; try (with_reducible rfl)
        try simp only [Act.put, List.setIfInBounds_toArray, List.set_cons_zero, List.set_cons_succ]
        refine wpAnyH_take (i := 8) (oi := { dst := some 43, op := Op.indexAddr 94 (Operand.tmp 41) (Operand.tmp 42), type := 0, pos := "sort.go:167", after := #[{ on := 6, ground := Ground.data }, { on := 7, ground := Ground.data }, { on := 4, ground := Ground.guard }], guard := some (4, true) }) (v := ?_) rfl (by kernel_rfl) (by kernel_rfl) (by kernel_rfl) (fun _ _ _ h => h) (Or.inl ⟨by rfl, ?_⟩) (by assumption) ?_
        rotate_left
        · intro w hSw; (try dsimp only at hSw); go_simp; try (with_reducible rfl)
        try simp only [Act.put, List.setIfInBounds_toArray, List.set_cons_zero, List.set_cons_succ]
        refine wpAnyH_take (i := 9) (oi := { dst := some 44, op := Op.load 32 (Operand.tmp 43), type := 32, pos := "sort.go:167", after := #[{ on := 8, ground := Ground.data }, { on := 4, ground := Ground.guard }], guard := some (4, true) }) (v := ?_) rfl (by kernel_rfl) (by kernel_rfl) (by kernel_rfl) (fun _ _ _ h => h) (Or.inl ⟨by rfl, ?_⟩) (by assumption) ?_
        rotate_left
        · intro w hSw; (try dsimp only at hSw); go_simp; try (with_reducible rfl)
        try simp only [Act.put, List.setIfInBounds_toArray, List.set_cons_zero, List.set_cons_succ]
        refine wpAnyH_take (i := 10) (oi := { dst := some 45, op := Op.load 50 (Operand.tmp 4), type := 50, pos := "sort.go:167", after := #[{ on := 4, ground := Ground.guard }], guard := some (4, true) }) (v := ?_) rfl (by kernel_rfl) (by kernel_rfl) (by kernel_rfl) (fun _ _ _ h => h) (Or.inl ⟨by rfl, ?_⟩) (by assumption) ?_
        rotate_left
        · intro w hSw; (try dsimp only at hSw); go_simp; try (with_reducible rfl)
        try simp only [Act.put, List.setIfInBounds_toArray, List.set_cons_zero, List.set_cons_succ]
        refine wpAnyH_ready (rs := [11]) (by kernel_rfl) (by simp) ?_
        refine AllReadyH.cons (o := { dst := some 46, op := Op.call { callee := Callee.value (Operand.tmp 40), args := #[Operand.tmp 44, Operand.tmp 45], argTypes := #[32, 50] }, type := 3, pos := "sort.go:167", after := #[{ on := 5, ground := Ground.data }, { on := 9, ground := Ground.data }, { on := 10, ground := Ground.data }, { on := 4, ground := Ground.chain }, { on := 4, ground := Ground.guard }], guard := some (4, true) }) rfl (fun K hK => ?_) AllReadyH.nil
        go_simp
        refine (findc_any (S h) t p o c HC.out _).mono ?_
        rintro r w' ⟨rfl, hb⟩
        try go_wp2_with fail
        refine hK.out _ _ (fs_keep hbz (by assumption) hb) (fun hHeld2 => ?_)
        clear hK K
        try simp only [Act.put, List.setIfInBounds_toArray, List.set_cons_zero, List.set_cons_succ]
        refine wpAnyH_take (i := 12) (oi := { dst := some 47, op := Op.binOp BinOp.eql 3 (Operand.tmp 46) (Operand.const (Value.int IntKind.i64 0)) 3, type := 4, pos := "sort.go:167", after := #[{ on := 11, ground := Ground.data }, { on := 4, ground := Ground.guard }, { on := 14, ground := Ground.gcOnly Departure.lateStores }], guard := some (4, true) }) (v := ?_) rfl (by kernel_rfl) (by kernel_rfl) (by kernel_rfl) (fun _ _ _ h => h) (Or.inl ⟨by rfl, ?_⟩) (by assumption) ?_
        rotate_left
        · intro w hSw; (try dsimp only at hSw); go_simp; try (with_reducible rfl)
        try simp only [Act.put, List.setIfInBounds_toArray, List.set_cons_zero, List.set_cons_succ]
        refine wpAnyH_take (i := 13) (oi := { dst := some 48, op := Op.pick (Operand.tmp 39) (Operand.tmp 47) (Operand.const (Value.bool false)), type := 4, pos := "sort.go:167", after := #[{ on := 4, ground := Ground.data }, { on := 12, ground := Ground.data }, { on := 14, ground := Ground.gcOnly Departure.lateStores }], guard := none }) (v := ?_) rfl (by kernel_rfl) (by kernel_rfl) (by kernel_rfl) (fun _ _ _ h => h) (Or.inl ⟨by rfl, ?_⟩) (by assumption) ?_
        rotate_left
        · intro w hSw; (try dsimp only at hSw); go_simp; try (with_reducible rfl)
        try simp only [Act.put, List.setIfInBounds_toArray, List.set_cons_zero, List.set_cons_succ]
        refine wpAnyH_take (i := 14) (oi := { dst := some 6, op := Op.assign (Operand.tmp 35), type := 3, pos := "sort.go:167", after := #[{ on := 0, ground := Ground.data }, { on := 11, ground := Ground.chain }, { on := 0, ground := Ground.phase }, { on := 1, ground := Ground.textOnly Departure.lateStores }, { on := 2, ground := Ground.textOnly Departure.lateStores }, { on := 3, ground := Ground.textOnly Departure.lateStores }, { on := 4, ground := Ground.textOnly Departure.lateStores }, { on := 5, ground := Ground.textOnly Departure.lateStores }, { on := 6, ground := Ground.textOnly Departure.lateStores }, { on := 7, ground := Ground.textOnly Departure.lateStores }, { on := 8, ground := Ground.textOnly Departure.lateStores }, { on := 9, ground := Ground.textOnly Departure.lateStores }, { on := 10, ground := Ground.textOnly Departure.lateStores }, { on := 11, ground := Ground.textOnly Departure.lateStoresUnsure }, { on := 12, ground := Ground.textOnly Departure.lateStores }, { on := 13, ground := Ground.textOnly Departure.lateStores }], guard := none }) (v := ?_) rfl (by kernel_rfl) (by kernel_rfl) (by kernel_rfl) (fun _ _ _ h => h) (Or.inl ⟨by rfl, ?_⟩) (by assumption) ?_
        rotate_left
        · intro w hSw; (try dsimp only at hSw); go_simp; try (with_reducible rfl)
        try simp only [Act.put, List.setIfInBounds_toArray, List.set_cons_zero, List.set_cons_succ]
        refine wpAnyH_take (i := 15) (oi := { dst := some 7, op := Op.assign (Operand.tmp 48), type := 4, pos := "sort.go:167", after := #[{ on := 13, ground := Ground.data }, { on := 14, ground := Ground.chain }, { on := 0, ground := Ground.phase }, { on := 1, ground := Ground.phase }, { on := 2, ground := Ground.phase }, { on := 3, ground := Ground.phase }, { on := 4, ground := Ground.phase }, { on := 5, ground := Ground.phase }, { on := 6, ground := Ground.phase }, { on := 7, ground := Ground.phase }, { on := 8, ground := Ground.phase }, { on := 9, ground := Ground.phase }, { on := 10, ground := Ground.phase }, { on := 11, ground := Ground.phase }, { on := 12, ground := Ground.phase }, { on := 13, ground := Ground.phase }, { on := 14, ground := Ground.phase }], guard := none }) (v := ?_) rfl (by kernel_rfl) (by kernel_rfl) (by kernel_rfl) (fun _ _ _ h => h) (Or.inl ⟨by rfl, ?_⟩) (by assumption) ?_
        rotate_left
        · intro w hSw; (try dsimp only at hSw); go_simp; try (with_reducible rfl)
        try simp only [Act.put, List.setIfInBounds_toArray, List.set_cons_zero, List.set_cons_succ]
        refine wpAnyH_done (by kernel_rfl) ?_ _
        have HTB2 := hid (fs_tb (by assumption))
        clear D1
        go_wp2_with fail
        go_ret2
        exact ⟨by rw [HFF.out]; rfl, HTB2.out.below⟩
      · obtain rfl : j = l := by omega
        have hff : f = false := by
          rw [Bool.eq_false_iff]; intro h
          exact hl2 (HF.out.hit.1 h).1
        subst hff
        clear hl2
        have e3 : decide ((j : Int) < (j : Int)) = false := by simp
        go_upto_region 8 with fail
        refine wp_region_held_drew (S := (fun wr => TB t p o w wr)) (by kernel_rfl) (HTB.out.stays ((Below.refl _ _).drew)) (fun hHeld => ?_)
        refine wpAnyH_take (i := 0) (oi := { dst := some 35, op := Op.move (Operand.tmp 9), type := 3, pos := "sort.go:167", after := #[], guard := none }) (v := ?_) rfl (by kernel_rfl) (by kernel_rfl) (by kernel_rfl) (fun _ _ _ h => h) (Or.inl ⟨by rfl, ?_⟩) (by assumption) ?_
        rotate_left
        · intro w hSw; (try dsimp only at hSw); go_simp; try (with_reducible rfl)
        try simp only [Act.put, List.setIfInBounds_toArray, List.set_cons_zero, List.set_cons_succ]
        refine wpAnyH_take (i := 1) (oi := { dst := some 36, op := Op.move (Operand.tmp 9), type := 3, pos := "sort.go:167", after := #[], guard := none }) (v := ?_) rfl (by kernel_rfl) (by kernel_rfl) (by kernel_rfl) (fun _ _ _ h => h) (Or.inl ⟨by rfl, ?_⟩) (by assumption) ?_
        rotate_left
        · intro w hSw; (try dsimp only at hSw); go_simp; try (with_reducible rfl)
        try simp only [Act.put, List.setIfInBounds_toArray, List.set_cons_zero, List.set_cons_succ]
        refine wpAnyH_take (i := 2) (oi := { dst := some 37, op := Op.move (Operand.tmp 8), type := 3, pos := "sort.go:167", after := #[], guard := none }) (v := ?_) rfl (by kernel_rfl) (by kernel_rfl) (by kernel_rfl) (fun _ _ _ h => h) (Or.inl ⟨by rfl, ?_⟩) (by assumption) ?_
        rotate_left
        · intro w hSw; (try dsimp only at hSw); go_simp; try (with_reducible rfl)
        try simp only [Act.put, List.setIfInBounds_toArray, List.set_cons_zero, List.set_cons_succ]
        refine wpAnyH_take (i := 3) (oi := { dst := some 38, op := Op.binOp BinOp.lss 3 (Operand.tmp 36) (Operand.tmp 37) 3, type := 4, pos := "sort.go:167", after := #[{ on := 1, ground := Ground.data }, { on := 2, ground := Ground.data }], guard := none }) (v := ?_) rfl (by kernel_rfl) (by kernel_rfl) (by kernel_rfl) (fun _ _ _ h => h) (Or.inl ⟨by rfl, ?_⟩) (by assumption) ?_
        rotate_left
        · intro w hSw; (try dsimp only at hSw); go_simp; try (with_reducible rfl)
        try simp only [Act.put, List.setIfInBounds_toArray, List.set_cons_zero, List.set_cons_succ]
        refine wpAnyH_take (i := 4) (oi := { dst := some 39, op := Op.move (Operand.tmp 38), type := 4, pos := "sort.go:167", after := #[{ on := 3, ground := Ground.data }], guard := none }) (v := ?_) rfl (by kernel_rfl) (by kernel_rfl) (by kernel_rfl) (fun _ _ _ h => h) (Or.inl ⟨by rfl, ?_⟩) (by assumption) ?_
        rotate_left
        · intro w hSw; (try dsimp only at hSw); go_simp; try (with_reducible rfl)
        try simp only [Act.put, List.setIfInBounds_toArray, List.set_cons_zero, List.set_cons_succ]
        refine wpAnyH_take (i := 5) (oi := { dst := some 40, op := Op.move (Operand.tmp 2), type := 127, pos := "sort.go:167", after := #[{ on := 4, ground := Ground.guard }], guard := some (4, true) }) (v := undef) rfl (by kernel_rfl) (by kernel_rfl) (by kernel_rfl) (fun _ _ _ h => h) (Or.inr ⟨by rfl, rfl⟩) (by assumption) ?_
        try simp only [Act.put, List.setIfInBounds_toArray, List.set_cons_zero, List.set_cons_succ]
        refine wpAnyH_take (i := 6) (oi := { dst := some 41, op := Op.move (Operand.tmp 0), type := 94, pos := "sort.go:167", after := #[{ on := 4, ground := Ground.guard }], guard := some (4, true) }) (v := undef) rfl (by kernel_rfl) (by kernel_rfl) (by kernel_rfl) (fun _ _ _ h => h) (Or.inr ⟨by rfl, rfl⟩) (by assumption) ?_
        try simp only [Act.put, List.setIfInBounds_toArray, List.set_cons_zero, List.set_cons_succ]
        refine wpAnyH_take (i := 7) (oi := { dst := some 42, op := Op.move (Operand.tmp 9), type := 3, pos := "sort.go:167", after := #[{ on := 4, ground := Ground.guard }], guard := some (4, true) }) (v := undef) rfl (by kernel_rfl) (by kernel_rfl) (by kernel_rfl) (fun _ _ _ h => h) (Or.inr ⟨by rfl, rfl⟩) (by assumption) ?_
        try simp only [Act.put, List.setIfInBounds_toArray, List.set_cons_zero, List.set_cons_succ]
        refine wpAnyH_take (i := 8) (oi := { dst := some 43, op := Op.indexAddr 94 (Operand.tmp 41) (Operand.tmp 42), type := 0, pos := "sort.go:167", after := #[{ on := 6, ground := Ground.data }, { on := 7, ground := Ground.data }, { on := 4, ground := Ground.guard }], guard := some (4, true) }) (v := undef) rfl (by kernel_rfl) (by kernel_rfl) (by kernel_rfl) (fun _ _ _ h => h) (Or.inr ⟨by rfl, rfl⟩) (by assumption) ?_
        try simp only [Act.put, List.setIfInBounds_toArray, List.set_cons_zero, List.set_cons_succ]
        refine wpAnyH_take (i := 9) (oi := { dst := some 44, op := Op.load 32 (Operand.tmp 43), type := 32, pos := "sort.go:167", after := #[{ on := 8, ground := Ground.data }, { on := 4, ground := Ground.guard }], guard := some (4, true) }) (v := undef) rfl (by kernel_rfl) (by kernel_rfl) (by kernel_rfl) (fun _ _ _ h => h) (Or.inr ⟨by rfl, rfl⟩) (by assumption) ?_
        try simp only [Act.put, List.setIfInBounds_toArray, List.set_cons_zero, List.set_cons_succ]
        refine wpAnyH_take (i := 10) (oi := { dst := some 45, op := Op.load 50 (Operand.tmp 4), type := 50, pos := "sort.go:167", after := #[{ on := 4, ground := Ground.guard }], guard := some (4, true) }) (v := undef) rfl (by kernel_rfl) (by kernel_rfl) (by kernel_rfl) (fun _ _ _ h => h) (Or.inr ⟨by rfl, rfl⟩) (by assumption) ?_
        try simp only [Act.put, List.setIfInBounds_toArray, List.set_cons_zero, List.set_cons_succ]
        refine wpAnyH_take (i := 11) (oi := { dst := some 46, op := Op.call { callee := Callee.value (Operand.tmp 40), args := #[Operand.tmp 44, Operand.tmp 45], argTypes := #[32, 50] }, type := 3, pos := "sort.go:167", after := #[{ on := 5, ground := Ground.data }, { on := 9, ground := Ground.data }, { on := 10, ground := Ground.data }, { on := 4, ground := Ground.chain }, { on := 4, ground := Ground.guard }], guard := some (4, true) }) (v := undef) rfl (by kernel_rfl) (by kernel_rfl) (by kernel_rfl) (fun _ _ _ h => h) (Or.inr ⟨by rfl, rfl⟩) (by assumption) ?_
        try simp only [Act.put, List.setIfInBounds_toArray, List.set_cons_zero, List.set_cons_succ]
        refine wpAnyH_take (i := 12) (oi := { dst := some 47, op := Op.binOp BinOp.eql 3 (Operand.tmp 46) (Operand.const (Value.int IntKind.i64 0)) 3, type := 4, pos := "sort.go:167", after := #[{ on := 11, ground := Ground.data }, { on := 4, ground := Ground.guard }, { on := 14, ground := Ground.gcOnly Departure.lateStores }], guard := some (4, true) }) (v := undef) rfl (by kernel_rfl) (by kernel_rfl) (by kernel_rfl) (fun _ _ _ h => h) (Or.inr ⟨by rfl, rfl⟩) (by assumption) ?_
        try simp only [Act.put, List.setIfInBounds_toArray, List.set_cons_zero, List.set_cons_succ]
        refine wpAnyH_take (i := 13) (oi := { dst := some 48, op := Op.pick (Operand.tmp 39) (Operand.tmp 47) (Operand.const (Value.bool false)), type := 4, pos := "sort.go:167", after := #[{ on := 4, ground := Ground.data }, { on := 12, ground := Ground.data }, { on := 14, ground := Ground.gcOnly Departure.lateStores }], guard := none }) (v := ?_) rfl (by kernel_rfl) (by kernel_rfl) (by kernel_rfl) (fun _ _ _ h => h) (Or.inl ⟨by rfl, ?_⟩) (by assumption) ?_
        rotate_left
        · intro w hSw; (try dsimp only at hSw); go_simp; try (with_reducible rfl)
        try simp only [Act.put, List.setIfInBounds_toArray, List.set_cons_zero, List.set_cons_succ]
        refine wpAnyH_take (i := 14) (oi := { dst := some 6, op := Op.assign (Operand.tmp 35), type := 3, pos := "sort.go:167", after := #[{ on := 0, ground := Ground.data }, { on := 11, ground := Ground.chain }, { on := 0, ground := Ground.phase }, { on := 1, ground := Ground.textOnly Departure.lateStores }, { on := 2, ground := Ground.textOnly Departure.lateStores }, { on := 3, ground := Ground.textOnly Departure.lateStores }, { on := 4, ground := Ground.textOnly Departure.lateStores }, { on := 5, ground := Ground.textOnly Departure.lateStores }, { on := 6, ground := Ground.textOnly Departure.lateStores }, { on := 7, ground := Ground.textOnly Departure.lateStores }, { on := 8, ground := Ground.textOnly Departure.lateStores }, { on := 9, ground := Ground.textOnly Departure.lateStores }, { on := 10, ground := Ground.textOnly Departure.lateStores }, { on := 11, ground := Ground.textOnly Departure.lateStoresUnsure }, { on := 12, ground := Ground.textOnly Departure.lateStores }, { on := 13, ground := Ground.textOnly Departure.lateStores }], guard := none }) (v := ?_) rfl (by kernel_rfl) (by kernel_rfl) (by kernel_rfl) (fun _ _ _ h => h) (Or.inl ⟨by rfl, ?_⟩) (by assumption) ?_
        rotate_left
        · intro w hSw; (try dsimp only at hSw); go_simp; try (with_reducible rfl)
        try simp only [Act.put, List.setIfInBounds_toArray, List.set_cons_zero, List.set_cons_succ]
        refine wpAnyH_take (i := 15) (oi := { dst := some 7, op := Op.assign (Operand.tmp 48), type := 4, pos := "sort.go:167", after := #[{ on := 13, ground := Ground.data }, { on := 14, ground := Ground.chain }, { on := 0, ground := Ground.phase }, { on := 1, ground := Ground.phase }, { on := 2, ground := Ground.phase }, { on := 3, ground := Ground.phase }, { on := 4, ground := Ground.phase }, { on := 5, ground := Ground.phase }, { on := 6, ground := Ground.phase }, { on := 7, ground := Ground.phase }, { on := 8, ground := Ground.phase }, { on := 9, ground := Ground.phase }, { on := 10, ground := Ground.phase }, { on := 11, ground := Ground.phase }, { on := 12, ground := Ground.phase }, { on := 13, ground := Ground.phase }, { on := 14, ground := Ground.phase }], guard := none }) (v := ?_) rfl (by kernel_rfl) (by kernel_rfl) (by kernel_rfl) (fun _ _ _ h => h) (Or.inl ⟨by rfl, ?_⟩) (by assumption) ?_
        rotate_left
        · intro w hSw; (try dsimp only at hSw); go_simp; try (with_reducible rfl)
        try simp only [Act.put, List.setIfInBounds_toArray, List.set_cons_zero, List.set_cons_succ]
        refine wpAnyH_done (by kernel_rfl) ?_ _
        go_wp2_with fail
        go_ret2
        exact ⟨rfl, (TB.below (by assumption))⟩

set_option maxHeartbeats 1600000 in
theorem find_any (lo : Option Addr) (l lcap : Nat) (S : Nat → Sg) (hl : l ≤ 300) (t p o : Int) (k : Nat) (f : Bool) (hF : FindIs l S t p o k f) (w : World) (hS : SigsAt w lo l S) :
    Calls Tryd.prog 61 #[.slice lo l lcap, sv t p o] w fun r w' => r = .returned (.tuple #[.int .i64 k, .bool f]) ∧ Below w.heap.size w w' := by
  have HC := hid (fun w hS => search_any lo l lcap S hl t p o k f hF w hS)
  have HTB := hid (TB.start t p o w)
  have HS := hid (hS.stays HTB.out.below)
  clear hF hS
  go_enter Tryd.func61, Tryd.ntmps61
  go_wp2_with (go_at_call 97; refine (HC.out _ HS.out).mono ?_; rintro r w1 ⟨rfl, hb⟩)
  go_ret2
  exact ⟨rfl, (HTB.out.stays hb).below⟩
set_option maxHeartbeats 1600000 in
theorem stands_any (lo : Option Addr) (l lcap : Nat) (S : Nat → Sg) (hl : l ≤ 300) (t p o : Int) (k : Nat) (f : Bool) (hF : FindIs l S t p o k f) (w : World) (hS : SigsAt w lo l S) :
    Calls Tryd.prog 79 #[.slice lo l lcap, sv t p o] w fun r w' => r = .returned (.bool f) ∧ Below w.heap.size w w' := by
  have HC := hid (fun w hS => find_any lo l lcap S hl t p o k f hF w hS)
  have HTB := hid (TB.start t p o w)
  have HS := hid (hS.stays HTB.out.below)
  clear hF hS
  go_enter Tryd.func79, Tryd.ntmps79
  go_wp2_with (go_at_call 61; refine (HC.out _ HS.out).mono ?_; rintro r w1 ⟨rfl, hb⟩)
  go_ret
  exact ⟨rfl, (HTB.out.stays hb).below⟩
end Go.Proofs.YtbfpcolkbfljoaaDoor
