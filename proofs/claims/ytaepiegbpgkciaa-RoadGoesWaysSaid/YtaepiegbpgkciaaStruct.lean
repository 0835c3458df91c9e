/-
  The memory of a function that makes new streets: what it was handed, the new streets' box, the result's box, the new rows.
-/
import Derived.Test.YtaepiegbpgkciaaWalkCopy
import Derived.Test.YtaepiegbpgkciaaWalkTile
import Derived.Deep.DeepCutAuto
namespace Go.Proofs.Ytaepiegbpgkciaa
open Go.RowKit

/-- No streets. -/
abbrev rnil : Value := rv 0 0 (.slice none 0 0) (.slice none 0 0)
theorem vals_upd (n : Nat) (Z : Nat → Int) (t : Nat) (x : Int) : (vals n (iv Z)).set t (.int .i64 x) = vals n (iv (upd Z t x)) := by
  rw [vals_set]; apply vals_congr; intro i _
  show (if i = t then Value.int .i64 x else Value.int .i64 (Z i)) = Value.int .i64 (if i = t then x else Z i)
  split <;> rfl
/-- The boxes at A (what it was handed), at o (the new streets) and at A + 1 (the result), the rows at g and k. -/
structure LS (A o g c k d n : Nat) (bx : Array Value) (W H : Int) (Z Y : Nat → Int) (w wr : World) : Prop where
  below : Below A w wr
  hb : wr.heap[A]? = some (.cells bx 24 (0, 0))
  ho : wr.heap[o]? = some (.cells #[.int .i64 W, .int .i64 H, .slice (some ⟨g, 0, none⟩) n c, .slice (some ⟨k, 0, none⟩) n d] 24 (0, 0))
  hr : wr.heap[A + 1]? = some (.cells #[.int .i64 0, .int .i64 0, .slice none 0 0, .slice none 0 0] 24 (0, 0))
  rg : wr.ownsRow A 3 1 (.slice (some ⟨g, 0, none⟩) n c) n (vals n (iv Z))
  rk : wr.ownsRow A 3 1 (.slice (some ⟨k, 0, none⟩) n d) n (vals n (iv Y))
  ng : g ≠ o ∧ g ≠ A + 1 ∧ g ≠ A
  nk : k ≠ o ∧ k ≠ A + 1 ∧ k ≠ A
  gk : g ≠ k
  no : o ≠ A + 1 ∧ A ≤ o
section
variable {A o g c k d n : Nat} {bx : Array Value} {W H : Int} {Z Y : Nat → Int} {w wr w' : World}
theorem LS.drew (h : LS A o g c k d n bx W H Z Y w wr) : LS A o g c k d n bx W H Z Y w wr.drew := ⟨h.below.drew, h.hb, h.ho, h.hr, h.rg.drew, h.rk.drew, h.ng, h.nk, h.gk, h.no⟩
theorem LS.stays (h : LS A o g c k d n bx W H Z Y w wr) (q : Below wr.heap.size wr w') : LS A o g c k d n bx W H Z Y w w' :=
  ⟨h.below.trans (q.mono (by have := heap_lt h.hr; omega)), (q.block _ (heap_lt h.hb)).trans h.hb, (q.block _ (heap_lt h.ho)).trans h.ho, (q.block _ (heap_lt h.hr)).trans h.hr, row_stays h.rg q, row_stays h.rk q, h.ng, h.nk, h.gk, h.no⟩
theorem LS.setG (h : LS A o g c k d n bx W H Z Y w wr) (t : Nat) (x : Int) : LS A o g c k d n bx W H (upd Z t x) Y w (wr.setCell ⟨g, t, none⟩ (.int .i64 x)) := by
  have hg := (h.rg.lt g rfl).1
  have r := h.rg.stored t (.int .i64 x)
  rw [vals_upd] at r
  exact ⟨h.below.setCell (p := ⟨g, t, none⟩) hg _, (Below.heap_setCell _ _ _ A (by simpa using h.ng.2.2.symm)).trans h.hb, (Below.heap_setCell _ _ _ o (by simpa using h.ng.1.symm)).trans h.ho, (Below.heap_setCell _ _ _ (A + 1) (by simpa using h.ng.2.1.symm)).trans h.hr, r.1,
    row_other (a := ⟨g, t, none⟩) h.rk (by simpa [Value.ownBlock] using h.gk.symm) _, h.ng, h.nk, h.gk, h.no⟩
theorem LS.setK (h : LS A o g c k d n bx W H Z Y w wr) (t : Nat) (x : Int) : LS A o g c k d n bx W H Z (upd Y t x) w (wr.setCell ⟨k, t, none⟩ (.int .i64 x)) := by
  have hk := (h.rk.lt k rfl).1
  have r := h.rk.stored t (.int .i64 x)
  rw [vals_upd] at r
  exact ⟨h.below.setCell (p := ⟨k, t, none⟩) hk _, (Below.heap_setCell _ _ _ A (by simpa using h.nk.2.2.symm)).trans h.hb, (Below.heap_setCell _ _ _ o (by simpa using h.nk.1.symm)).trans h.ho, (Below.heap_setCell _ _ _ (A + 1) (by simpa using h.nk.2.1.symm)).trans h.hr,
    row_other (a := ⟨k, t, none⟩) h.rg (by simpa [Value.ownBlock] using h.gk) _, r.1, h.ng, h.nk, h.gk, h.no⟩
theorem LS.g_at (h : LS A o g c k d n bx W H Z Y w wr) {t : Nat} (ht : t < n) : wr.cell? ⟨o, 2, none⟩ = some (.slice (some ⟨g, 0, none⟩) n c) ∧ wr.cell? ⟨o, 3, none⟩ = some (.slice (some ⟨k, 0, none⟩) n d) ∧
    wr.cell? ⟨g, t, none⟩ = some (.int .i64 (Z t)) ∧ wr.frozen? ⟨g, t, none⟩ = false ∧ g < wr.heap.size :=
  ⟨cell_of_row wr o 2 _ _ _ h.ho, cell_of_row wr o 3 _ _ _ h.ho, (h.rg.cellAt t (by omega)).trans (vals_get _ ht), h.rg.frozenAt t, (h.rg.lt g rfl).2⟩
theorem LS.k_at (h : LS A o g c k d n bx W H Z Y w wr) {t : Nat} (ht : t < n) : wr.cell? ⟨o, 2, none⟩ = some (.slice (some ⟨g, 0, none⟩) n c) ∧ wr.cell? ⟨o, 3, none⟩ = some (.slice (some ⟨k, 0, none⟩) n d) ∧
    wr.cell? ⟨k, t, none⟩ = some (.int .i64 (Y t)) ∧ wr.frozen? ⟨k, t, none⟩ = false ∧ k < wr.heap.size :=
  ⟨cell_of_row wr o 2 _ _ _ h.ho, cell_of_row wr o 3 _ _ _ h.ho, (h.rk.cellAt t (by omega)).trans (vals_get _ ht), h.rk.frozenAt t, (h.rk.lt k rfl).2⟩
theorem LS.box (h : LS A o g c k d n bx W H Z Y w wr) : wr.cell? ⟨o, 0, none⟩ = some (.int .i64 W) ∧ wr.cell? ⟨o, 1, none⟩ = some (.int .i64 H) ∧ wr.cell? ⟨o, 2, none⟩ = some (.slice (some ⟨g, 0, none⟩) n c) ∧ wr.cell? ⟨o, 3, none⟩ = some (.slice (some ⟨k, 0, none⟩) n d) ∧ o < wr.heap.size :=
  ⟨cell_of_row wr o 0 _ _ _ h.ho, cell_of_row wr o 1 _ _ _ h.ho, cell_of_row wr o 2 _ _ _ h.ho, cell_of_row wr o 3 _ _ _ h.ho, heap_lt h.ho⟩
theorem LS.res (h : LS A o g c k d n bx W H Z Y w wr) : (wr.cell? ⟨A + 1, 0, none⟩ = some (.int .i64 0) ∧ wr.cell? ⟨A + 1, 1, none⟩ = some (.int .i64 0) ∧ wr.cell? ⟨A + 1, 2, none⟩ = some (.slice none 0 0) ∧ wr.cell? ⟨A + 1, 3, none⟩ = some (.slice none 0 0)) ∧
    (wr.frozen? ⟨A + 1, 0, none⟩ = false ∧ wr.frozen? ⟨A + 1, 1, none⟩ = false ∧ wr.frozen? ⟨A + 1, 2, none⟩ = false ∧ wr.frozen? ⟨A + 1, 3, none⟩ = false) ∧ A + 1 < wr.heap.size :=
  ⟨⟨cell_of_row wr (A + 1) 0 _ _ _ h.hr, cell_of_row wr (A + 1) 1 _ _ _ h.hr, cell_of_row wr (A + 1) 2 _ _ _ h.hr, cell_of_row wr (A + 1) 3 _ _ _ h.hr⟩, ⟨frozen_of_row wr (A + 1) 0 _ _ h.hr, frozen_of_row wr (A + 1) 1 _ _ h.hr, frozen_of_row wr (A + 1) 2 _ _ h.hr, frozen_of_row wr (A + 1) 3 _ _ h.hr⟩, heap_lt h.hr⟩
/-- The new streets are written to the result's box. -/
theorem LS.done (h : LS A o g c k d n bx W H Z Y w wr) {v0 v1 v2 v3 : Value} (e0 : v0 = .int .i64 W) (e1 : v1 = .int .i64 H) (e2 : v2 = .slice (some ⟨g, 0, none⟩) n c) (e3 : v3 = .slice (some ⟨k, 0, none⟩) n d) :
    ((((wr.setCell ⟨A + 1, 0, none⟩ v0).setCell ⟨A + 1, 1, none⟩ v1).setCell ⟨A + 1, 2, none⟩ v2).setCell ⟨A + 1, 3, none⟩ v3).heap[A + 1]? = some (.cells #[.int .i64 W, .int .i64 H, .slice (some ⟨g, 0, none⟩) n c, .slice (some ⟨k, 0, none⟩) n d] 24 (0, 0)) ∧
    Below A w ((((wr.setCell ⟨A + 1, 0, none⟩ v0).setCell ⟨A + 1, 1, none⟩ v1).setCell ⟨A + 1, 2, none⟩ v2).setCell ⟨A + 1, 3, none⟩ v3) ∧
    ((((wr.setCell ⟨A + 1, 0, none⟩ v0).setCell ⟨A + 1, 1, none⟩ v1).setCell ⟨A + 1, 2, none⟩ v2).setCell ⟨A + 1, 3, none⟩ v3).ownsRow A 3 1 (.slice (some ⟨g, 0, none⟩) n c) n (vals n (iv Z)) ∧
    ((((wr.setCell ⟨A + 1, 0, none⟩ v0).setCell ⟨A + 1, 1, none⟩ v1).setCell ⟨A + 1, 2, none⟩ v2).setCell ⟨A + 1, 3, none⟩ v3).ownsRow A 3 1 (.slice (some ⟨k, 0, none⟩) n d) n (vals n (iv Y)) := by
  subst e0 e1 e2 e3
  exact ⟨set4 h.hr _ _ _ _, set4_below (g := A + 1) h.below (Nat.le_succ _) _ _ _ _, set4_row (g := A + 1) h.rg (by simpa [Value.ownBlock] using h.ng.2.1) _ _ _ _, set4_row (g := A + 1) h.rk (by simpa [Value.ownBlock] using h.nk.2.1) _ _ _ _⟩
/-- The new streets stand in the box of what it was handed. -/
theorem ls_box {q0 q1 q2 q3 : Value} (h : Bx2 A 24 24 #[q0, q1, q2, q3] #[.int .i64 0, .int .i64 0, .slice none 0 0, .slice none 0 0] w wr) (rg : wr.ownsRow A 3 1 (.slice (some ⟨g, 0, none⟩) n c) n (vals n (iv Z)))
    (rk : wr.ownsRow A 3 1 (.slice (some ⟨k, 0, none⟩) n d) n (vals n (iv Y))) (hg : A + 1 < g) (hk : A + 1 < k) (gk : g ≠ k) :
    LS A A g c k d n #[.int .i64 W, .int .i64 H, .slice (some ⟨g, 0, none⟩) n c, .slice (some ⟨k, 0, none⟩) n d] W H Z Y w ((((wr.setCell ⟨A, 0, none⟩ (.int .i64 W)).setCell ⟨A, 1, none⟩ (.int .i64 H)).setCell ⟨A, 2, none⟩ (.slice (some ⟨g, 0, none⟩) n c)).setCell ⟨A, 3, none⟩ (.slice (some ⟨k, 0, none⟩) n d)) :=
  ⟨set4_below h.below (Nat.le_refl _) _ _ _ _, set4 h.hb _ _ _ _, set4 h.hb _ _ _ _, by rw [Below.heap_setCell _ _ _ (A + 1) (by simp), Below.heap_setCell _ _ _ (A + 1) (by simp), Below.heap_setCell _ _ _ (A + 1) (by simp), Below.heap_setCell _ _ _ (A + 1) (by simp)]; exact h.hr,
    set4_row rg (by simp [Value.ownBlock]; omega) _ _ _ _, set4_row rk (by simp [Value.ownBlock]; omega) _ _ _ _, by omega, by omega, gk, by omega⟩
/-- The new streets get a box of their own. -/
theorem ls_alloc (h : Bx2 A 24 24 bx #[.int .i64 0, .int .i64 0, .slice none 0 0, .slice none 0 0] w wr) (rg : wr.ownsRow A 3 1 (.slice (some ⟨g, 0, none⟩) n c) n (vals n (iv Z)))
    (rk : wr.ownsRow A 3 1 (.slice (some ⟨k, 0, none⟩) n d) n (vals n (iv Y))) (hg : A + 1 < g) (hk : A + 1 < k) (gk : g ≠ k) :
    LS A wr.heap.size g c k d n bx W H Z Y w (wr.alloc (.cells #[.int .i64 W, .int .i64 H, .slice (some ⟨g, 0, none⟩) n c, .slice (some ⟨k, 0, none⟩) n d] 24)) := by
  have hr := heap_lt h.hr
  have l1 := (rg.lt g rfl).2
  have l2 := (rk.lt k rfl).2
  have hb := Joins.below_alloc1 wr (.cells #[.int .i64 W, .int .i64 H, .slice (some ⟨g, 0, none⟩) n c, .slice (some ⟨k, 0, none⟩) n d] 24)
  refine ⟨h.below.trans (hb.mono (by omega)), (hb.block _ (by omega)).trans h.hb, ?_, (hb.block _ hr).trans h.hr, row_stays rg hb, row_stays rk hb, by omega, by omega, gk, by omega⟩
  show (wr.heap.push _)[_]? = _
  rw [Array.getElem?_push, if_pos rfl]
end
theorem ints_row {w : World} {B : Nat} {g n c : Nat} {Z : Nat → Int} (h : w.ownsRow B 3 1 (.slice (some ⟨g, 0, none⟩) n c) n (vals n (iv Z))) : Ints w (some ⟨g, 0, none⟩) n Z := vals_of_row h

set_option maxHeartbeats 6400000 in
theorem rebuild_to (W H : Int) (ao : Option Addr) (n cap : Nat) (Z : Nat → Int) (bo : Option Addr) (bcap : Nat) (Y : Nat → Int) (hn1 : 0 < n) (hn : n ≤ 1089) (t : Nat) (ht : t < n) (a : Int) (Y' : Nat → Int) (hY : (Z t = a ∧ Y' = Y) ∨ (Z t ≠ a ∧ Y' = upd Y t 0)) (w : World) (hI : Ints w ao n Z) (hB : Ints w bo n Y) :
    Calls Try.prog 47 #[rv W H (.slice ao n cap) (.slice bo n bcap), .int .i64 t, .int .i64 a] w (Cloned W H n (upd Z t a) Y' w) := by
  have hst := bx2_start w 24 24 #[.int .i64 W, .int .i64 H, .slice ao n cap, .slice bo n bcap] #[.int .i64 0, .int .i64 0, .slice none 0 0, .slice none 0 0]
  have HI := hid (hI.stays hst.below)
  have HB := hid (hB.stays hst.below)
  have HST := hid hst
  obtain ⟨A, hA⟩ : ∃ A, A = w.heap.size := ⟨_, rfl⟩
  have HA := hid hA
  have HY := hid hY
  have t1 : (0 : Int) ≤ (t : Int) := by omega
  have t2 : (t : Int) < (n : Int) := by omega
  clear hI hB hst hY
  go_enter Try.func47, Try.ntmps47
  go_wp2_with fail
  refine (clone_any W H ao n cap Z bo bcap Y hn1 hn _ HI.out HB.out).mono ?_
  rintro r w4 ⟨g, c, k, d, rfl, hg, hk, hgk, hb4⟩
  have H4 := hid (HST.out.stays hb4)
  have hgz := hg.lt g rfl
  have hkz := hk.lt k rfl
  have hA4 := heap_lt HST.out.hr
  simp only [← hA] at H4 hA4 hgz hkz ⊢
  have HG4 := hid (row_mono (base' := A) hg (by rw [HA.out]; simp; omega))
  have HK4 := hid (row_mono (base' := A) hk (by rw [HA.out]; simp; omega))
  have hg2 : A + 1 < g := by simp at hgz; omega
  have hk2 : A + 1 < k := by simp at hkz; omega
  clear hb4 hg hk HST HI HB hA hgz hkz hA4
  have b0 := cell_of_row w4 A 0 _ _ _ H4.out.hb
  have b1 := cell_of_row w4 A 1 _ _ _ H4.out.hb
  have b2 := cell_of_row w4 A 2 _ _ _ H4.out.hb
  have b3 := cell_of_row w4 A 3 _ _ _ H4.out.hb
  simp only [List.getElem?_toArray, List.getElem?_cons_zero, List.getElem?_cons_succ] at b0 b1 b2 b3
  have e0 := frozen_of_row w4 A 0 _ _ H4.out.hb
  have e1 := frozen_of_row w4 A 1 _ _ H4.out.hb
  have e2 := frozen_of_row w4 A 2 _ _ H4.out.hb
  have e3 := frozen_of_row w4 A 3 _ _ H4.out.hb
  have hz4 := heap_lt H4.out.hb
  go_upto_region 2 with (fail)
  have HL := hid (ls_box (W := W) (H := H) H4.out HG4.out HK4.out hg2 hk2 hgk)
  clear b0 b1 b2 b3 e0 e1 e2 e3 H4 HG4 HK4 hg2 hk2 hz4
  generalize World.setCell _ _ _ = w5 at HL ⊢
  obtain ⟨c2, c3, cg, fg, sg⟩ := HL.out.g_at ht
  obtain ⟨z, hz⟩ : ∃ z, z = Z t := ⟨_, rfl⟩
  rw [← hz] at cg HY
  have HZ := hid hz
  have hAz := heap_lt HL.out.hb
  clear hz
  by_cases hza : z = a
  · have g1 : (z != a) = false := by simp [hza]
    have HZA := hid hza
    clear hza
    obtain ⟨b0, b1, _, _, _⟩ := HL.out.box
    obtain ⟨⟨r0, r1, r2, r3⟩, ⟨f0, f1, f2, f3⟩, rz⟩ := HL.out.res
    go_wp2_with fail
    obtain ⟨k3, k4, k5, k6⟩ := HL.out.done rfl rfl rfl rfl
    clear b0 b1 c2 c3 cg fg sg r0 r1 r2 r3 f0 f1 f2 f3
    generalize World.setCell _ _ _ = w6 at k3 k4 k5 k6 ⊢
    have q0 := cell_of_row w6 (A + 1) 0 _ _ _ k3
    have q1 := cell_of_row w6 (A + 1) 1 _ _ _ k3
    have q2 := cell_of_row w6 (A + 1) 2 _ _ _ k3
    have q3 := cell_of_row w6 (A + 1) 3 _ _ _ k3
    simp only [List.getElem?_toArray, List.getElem?_cons_zero, List.getElem?_cons_succ] at q0 q1 q2 q3
    refine bodyPost_ret (v := rv W H (.slice (some ⟨g, 0, none⟩) n c) (.slice (some ⟨k, 0, none⟩) n d)) (by simp [results, Try.results47, go_sem, q0, q1, q2, q3]) rfl ⟨g, c, k, d, rfl, ?_, ?_, hgk, ?_⟩
    · rw [← HA.out, ← HZA.out, HZ.out, upd_self]; exact k5
    · rcases HY.out with h | h
      · rw [← HA.out, h.2]; exact k6
      · exact absurd HZA.out h.1
    · rw [← HA.out]; exact k4
  · have g1 : (z != a) = true := by simpa using hza
    have HZA := hid hza
    clear hza
    go_wp2_with fail
    obtain ⟨_, _, ck, fk, sk⟩ := HL.out.k_at ht
    have ngA := HL.out.ng.2.2
    have nkA := HL.out.nk.2.2
    obtain ⟨b0, b1, _, _, _⟩ := HL.out.box
    obtain ⟨⟨r0, r1, r2, r3⟩, ⟨f0, f1, f2, f3⟩, rz⟩ := HL.out.res
    go_region_held3 (fun w' => w'.cell? ⟨A, 2, none⟩ = some (.slice (some ⟨g, 0, none⟩) n c) ∧ w'.cell? ⟨A, 3, none⟩ = some (.slice (some ⟨k, 0, none⟩) n d))
      (go_keep)
      (fail)
    have HL2 := hid ((HL.out.setG t a).setK t 0).drew
    clear b0 b1 c2 c3 cg fg sg ck fk sk r0 r1 r2 r3 f0 f1 f2 f3 rz
    generalize World.drew _ = w6 at HL2 ⊢
    obtain ⟨b0, b1, b2, b3, bz⟩ := HL2.out.box
    obtain ⟨⟨r0, r1, r2, r3⟩, ⟨f0, f1, f2, f3⟩, rz⟩ := HL2.out.res
    go_wp2_with fail
    obtain ⟨k3, k4, k5, k6⟩ := HL2.out.done rfl rfl rfl rfl
    clear b0 b1 b2 b3 r0 r1 r2 r3 f0 f1 f2 f3
    generalize World.setCell _ _ _ = w7 at k3 k4 k5 k6 ⊢
    have q0 := cell_of_row w7 (A + 1) 0 _ _ _ k3
    have q1 := cell_of_row w7 (A + 1) 1 _ _ _ k3
    have q2 := cell_of_row w7 (A + 1) 2 _ _ _ k3
    have q3 := cell_of_row w7 (A + 1) 3 _ _ _ k3
    simp only [List.getElem?_toArray, List.getElem?_cons_zero, List.getElem?_cons_succ] at q0 q1 q2 q3
    refine bodyPost_ret (v := rv W H (.slice (some ⟨g, 0, none⟩) n c) (.slice (some ⟨k, 0, none⟩) n d)) (by simp [results, Try.results47, go_sem, q0, q1, q2, q3]) rfl ⟨g, c, k, d, rfl, ?_, ?_, hgk, ?_⟩
    · rw [← HA.out]; exact k5
    · rcases HY.out with h | h
      · exact absurd h.1 HZA.out
      · rw [← HA.out, h.2]; exact k6
    · rw [← HA.out]; exact k4
end Go.Proofs.Ytaepiegbpgkciaa
