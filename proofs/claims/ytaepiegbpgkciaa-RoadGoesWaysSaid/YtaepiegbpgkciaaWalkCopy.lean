/-
  The walk of the reference's copied: streets in memory of their own.
-/
import Derived.Test.YtaepiegbpgkciaaWalkClone
import Derived.Deep.RegionHeld3
namespace Go.Proofs.Ytaepiegbpgkciaa
open Go.RowKit

/-- The two boxes of copied, whatever the result's holds. -/
structure Cx (A : Nat) (bx : Array Value) (w wr : World) : Prop where
  below : Below A w wr
  hb : wr.heap[A]? = some (.cells bx 24 (0, 0))
  hres : ∃ q0 q1 q2 q3, wr.heap[A + 1]? = some (.cells #[q0, q1, q2, q3] 24 (0, 0))
section
variable {A : Nat} {x0 x1 x2 x3 : Value} {bx : Array Value} {w a b : World} {p : Prop}
theorem Cx.hr (h : Cx A bx w a) : a.heap[A + 1]? = some (a.heap[A + 1]'(by obtain ⟨_, _, _, _, h⟩ := h.hres; exact heap_lt h)) := Array.getElem?_eq_getElem _
theorem cx_of (h : Cx A bx w a ∧ p) : Cx A bx w a := h.1
theorem cx_keep (h : Cx A #[x0, x1, x2, x3] w a ∧ p) (k : Below (A + 2) a b) : Cx A #[x0, x1, x2, x3] w b ∧ b.cell? ⟨A, 0, none⟩ = some x0 ∧ b.cell? ⟨A, 1, none⟩ = some x1 ∧ b.cell? ⟨A, 2, none⟩ = some x2 ∧ b.cell? ⟨A, 3, none⟩ = some x3 := by
  obtain ⟨q0, q1, q2, q3, hq⟩ := h.1.hres
  have h' : Cx A #[x0, x1, x2, x3] w b := ⟨h.1.below.trans (k.mono (by omega)), (k.block _ (by omega)).trans h.1.hb, q0, q1, q2, q3, (k.block _ (by omega)).trans hq⟩
  exact ⟨h', cell_of_row b A 0 _ _ _ h'.hb, cell_of_row b A 1 _ _ _ h'.hb, cell_of_row b A 2 _ _ _ h'.hb, cell_of_row b A 3 _ _ _ h'.hb⟩
theorem cx_set (h : Cx A #[x0, x1, x2, x3] w a ∧ p) (y0 y1 y2 y3 : Value) :
    Cx A #[x0, x1, x2, x3] w ((((a.setCell ⟨A + 1, 0, none⟩ y0).setCell ⟨A + 1, 1, none⟩ y1).setCell ⟨A + 1, 2, none⟩ y2).setCell ⟨A + 1, 3, none⟩ y3) ∧
    ((((a.setCell ⟨A + 1, 0, none⟩ y0).setCell ⟨A + 1, 1, none⟩ y1).setCell ⟨A + 1, 2, none⟩ y2).setCell ⟨A + 1, 3, none⟩ y3).cell? ⟨A, 0, none⟩ = some x0 ∧ ((((a.setCell ⟨A + 1, 0, none⟩ y0).setCell ⟨A + 1, 1, none⟩ y1).setCell ⟨A + 1, 2, none⟩ y2).setCell ⟨A + 1, 3, none⟩ y3).cell? ⟨A, 1, none⟩ = some x1 ∧
    ((((a.setCell ⟨A + 1, 0, none⟩ y0).setCell ⟨A + 1, 1, none⟩ y1).setCell ⟨A + 1, 2, none⟩ y2).setCell ⟨A + 1, 3, none⟩ y3).cell? ⟨A, 2, none⟩ = some x2 ∧ ((((a.setCell ⟨A + 1, 0, none⟩ y0).setCell ⟨A + 1, 1, none⟩ y1).setCell ⟨A + 1, 2, none⟩ y2).setCell ⟨A + 1, 3, none⟩ y3).cell? ⟨A, 3, none⟩ = some x3 := by
  obtain ⟨q0, q1, q2, q3, hq⟩ := h.1.hres
  have hb : ((((a.setCell ⟨A + 1, 0, none⟩ y0).setCell ⟨A + 1, 1, none⟩ y1).setCell ⟨A + 1, 2, none⟩ y2).setCell ⟨A + 1, 3, none⟩ y3).heap[A]? = some (.cells #[x0, x1, x2, x3] 24 (0, 0)) := by
    rw [Below.heap_setCell _ _ _ A (by simp), Below.heap_setCell _ _ _ A (by simp), Below.heap_setCell _ _ _ A (by simp), Below.heap_setCell _ _ _ A (by simp)]; exact h.1.hb
  exact ⟨⟨set4_below h.1.below (Nat.le_succ _) _ _ _ _, hb, _, _, _, _, set4 hq _ _ _ _⟩, cell_of_row _ A 0 _ _ _ hb, cell_of_row _ A 1 _ _ _ hb, cell_of_row _ A 2 _ _ _ hb, cell_of_row _ A 3 _ _ _ hb⟩
theorem cx_alloc (h : Cx A bx w a) (o : Obj) : Below (A + 2) a (a.alloc o) := (Below.refl _ _).alloc (by have := heap_lt h.hr; omega) _
theorem cx_drew (a : World) : Below (A + 2) a a.drew := (Below.refl _ _).drew
theorem cx_start (h : Bx2 A 24 24 bx #[x0, x1, x2, x3] w a) : Cx A bx w a := ⟨h.below, h.hb, _, _, _, _, h.hr⟩
theorem row_grown {B n size : Nat} {e : TypeId} {v : Value} {xs : List Value} {r : Option Nat} (h : a.ownsRow B e size v n xs) (hg : a.grownBy b r) (hv : v.ownBlock ≠ r) : b.ownsRow B e size v n xs := by
  refine ⟨h.1, ?_⟩
  have hlt := fun k hk => (h.lt k hk).2
  rcases h.2 with hn | ⟨g, cap, cur, rfl, hB, hgb, rest⟩
  · exact .inl hn
  · refine .inr ⟨g, cap, cur, rfl, hB, ?_, rest⟩
    rw [hg.block g (hlt g rfl) hv]
    exact hgb
theorem news_of {F : Nat → Value} {n c off : Nat} (h : Vals a (some ⟨c, off, none⟩) n F) : ∀ j u, (vals n F)[j]? = some u → a.cell? ((⟨c, off, none⟩ : Addr).add j) = some u := fun j u hj => by
  have hjn : j < n := by have := (List.getElem?_eq_some_iff.1 hj).1; rwa [vals_length] at this
  rw [vals_get _ hjn] at hj
  obtain ⟨b', o', e, _, hc⟩ := h j hjn
  cases e
  rw [Addr.add_lit, hc]; exact hj
theorem vals_one {F : Nat → Value} {n : Nat} (h : ∀ j, (F j).oneCell' = true) : ∀ u ∈ vals n F, u.oneCell' = true := by
  intro u hu
  obtain ⟨x, _, rfl⟩ := List.mem_map.1 hu
  exact h x
theorem own_nil {g H : Nat} (h : (Value.slice none 0 0).ownBlock = some g ∨ g = H) : g = H := by
  rcases h with h | h
  · simp [Value.ownBlock] at h
  · exact h
end
/-- What is known ahead of the last store. -/
structure Fin4 (W H : Int) (A n g c k d : Nat) (Z Y : Nat → Int) (q0 q1 q2 q3 : Value) (w a : World) : Prop where
  mk ::
  res : a.heap[A + 1]? = some (.cells #[q0, q1, q2, q3] 24 (0, 0))
  below : Below A w a
  row1 : a.ownsRow A 3 1 (.slice (some ⟨g, 0, none⟩) n c) n (vals n (iv Z))
  row2 : a.ownsRow A 3 1 (.slice (some ⟨k, 0, none⟩) n d) n (vals n (iv Y))
  ng : g ≠ A + 1
  nk : k ≠ A + 1

set_option maxRecDepth 20000 in
set_option maxHeartbeats 6400000 in
theorem copy_any (W H : Int) (ao : Option Addr) (n cap : Nat) (Z : Nat → Int) (bo : Option Addr) (bcap : Nat) (Y : Nat → Int) (hn1 : 0 < n) (hn : n ≤ 1089) (w : World) (hI : Ints w ao n Z) (hB : Ints w bo n Y) :
    Calls Try.prog 50 #[rv W H (.slice ao n cap) (.slice bo n bcap)] w (Cloned W H n Z Y w) := by
  have hst := bx2_start w 24 24 #[.int .i64 W, .int .i64 H, .slice ao n cap, .slice bo n bcap] #[.int .i64 0, .int .i64 0, .slice none 0 0, .slice none 0 0]
  have HI := hid hI
  have HB := hid hB
  have HST := hid hst
  obtain ⟨b, off, rfl, hbz, hcx⟩ := hI.one hn1
  obtain ⟨b', off', rfl, hbz', hcx'⟩ := hB.one hn1
  obtain ⟨i0, hi0, hi1, hi2, hi3⟩ := info_parts info3
  have HIN := hid (And.intro hi0 (And.intro hi1 (And.intro hi2 hi3)))
  clear hI hB hst hi0 hi1 hi2 hi3 hcx hcx'
  go_enter Try.func50, Try.ntmps50
  go_wp2_with fail
  obtain ⟨A, hA⟩ : ∃ A, A = w.heap.size := ⟨_, rfl⟩
  have HA := hid hA
  simp only [← hA] at HST hbz hbz' ⊢
  clear hA
  generalize World.alloc _ _ = w0 at HST ⊢
  have cs0 := cx_of (cx_keep (And.intro (cx_start HST.out) trivial) (cx_drew w0))
  have hz0 : A + 1 < w0.heap.size := heap_lt cs0.hr
  refine wp_region_held_drew (S := (fun w' => Cx A #[.int .i64 W, .int .i64 H, .slice (some ⟨b, off, none⟩) n cap, .slice (some ⟨b', off', none⟩) n bcap] w w' ∧ w'.cell? ⟨A, 0, none⟩ = some (.int .i64 W) ∧ w'.cell? ⟨A, 1, none⟩ = some (.int .i64 H) ∧ w'.cell? ⟨A, 2, none⟩ = some (.slice (some ⟨b, off, none⟩) n cap) ∧ w'.cell? ⟨A, 3, none⟩ = some (.slice (some ⟨b', off', none⟩) n bcap))) (by kernel_rfl) (cx_keep (And.intro (cx_start HST.out) trivial) (cx_drew w0)) (fun hHeld => ?_)
  refine wpAnyH_take (i := 0) (oi := { dst := some 3, op := Op.fieldAddr 24 (Operand.tmp 1) 0, type := 0, pos := "ref.go:62", after := #[], guard := none }) (v := ?_) rfl (by kernel_rfl) (by kernel_rfl) (by kernel_rfl) (fun _ _ _ h => h) (Or.inl ⟨by rfl, ?_⟩) (by assumption) ?_
  rotate_left
  · intro w hSw; (try dsimp only at hSw); go_simp; try (with_reducible rfl)
  try simp only [Act.put, List.setIfInBounds_toArray, List.set_cons_zero, List.set_cons_succ]
  refine wpAnyH_take (i := 1) (oi := { dst := some 4, op := Op.load 3 (Operand.tmp 3), type := 3, pos := "ref.go:62", after := #[{ on := 0, ground := Ground.data }], guard := none }) (v := ?_) rfl (by kernel_rfl) (by kernel_rfl) (by kernel_rfl) (fun _ _ _ h => h) (Or.inl ⟨by rfl, ?_⟩) (by assumption) ?_
  rotate_left
  · intro w hSw; (try dsimp only at hSw); go_simp; try (with_reducible rfl)
  try simp only [Act.put, List.setIfInBounds_toArray, List.set_cons_zero, List.set_cons_succ]
  refine wpAnyH_take (i := 2) (oi := { dst := some 5, op := Op.fieldAddr 24 (Operand.tmp 1) 1, type := 0, pos := "ref.go:62", after := #[], guard := none }) (v := ?_) rfl (by kernel_rfl) (by kernel_rfl) (by kernel_rfl) (fun _ _ _ h => h) (Or.inl ⟨by rfl, ?_⟩) (by assumption) ?_
  rotate_left
  · intro w hSw; (try dsimp only at hSw); go_simp; try (with_reducible rfl)
  try simp only [Act.put, List.setIfInBounds_toArray, List.set_cons_zero, List.set_cons_succ]
  refine wpAnyH_take (i := 3) (oi := { dst := some 6, op := Op.load 3 (Operand.tmp 5), type := 3, pos := "ref.go:62", after := #[{ on := 2, ground := Ground.data }], guard := none }) (v := ?_) rfl (by kernel_rfl) (by kernel_rfl) (by kernel_rfl) (fun _ _ _ h => h) (Or.inl ⟨by rfl, ?_⟩) (by assumption) ?_
  rotate_left
  · intro w hSw; (try dsimp only at hSw); go_simp; try (with_reducible rfl)
  try simp only [Act.put, List.setIfInBounds_toArray, List.set_cons_zero, List.set_cons_succ]
  refine wpAnyH_take (i := 4) (oi := { dst := some 7, op := Op.fieldAddr 24 (Operand.tmp 1) 2, type := 0, pos := "ref.go:62", after := #[], guard := none }) (v := ?_) rfl (by kernel_rfl) (by kernel_rfl) (by kernel_rfl) (fun _ _ _ h => h) (Or.inl ⟨by rfl, ?_⟩) (by assumption) ?_
  rotate_left
  · intro w hSw; (try dsimp only at hSw); go_simp; try (with_reducible rfl)
  try simp only [Act.put, List.setIfInBounds_toArray, List.set_cons_zero, List.set_cons_succ]
  refine wpAnyH_take (i := 5) (oi := { dst := some 8, op := Op.load 22 (Operand.tmp 7), type := 22, pos := "ref.go:62", after := #[{ on := 4, ground := Ground.data }], guard := none }) (v := ?_) rfl (by kernel_rfl) (by kernel_rfl) (by kernel_rfl) (fun _ _ _ h => h) (Or.inl ⟨by rfl, ?_⟩) (by assumption) ?_
  rotate_left
  · intro w hSw; (try dsimp only at hSw); go_simp; try (with_reducible rfl)
  try simp only [Act.put, List.setIfInBounds_toArray, List.set_cons_zero, List.set_cons_succ]
  refine wpAnyH_take (i := 7) (oi := { dst := some 10, op := Op.fieldAddr 24 (Operand.tmp 1) 3, type := 0, pos := "ref.go:62", after := #[], guard := none }) (v := ?_) rfl (by kernel_rfl) (by kernel_rfl) (by kernel_rfl) (fun _ _ _ h => h) (Or.inl ⟨by rfl, ?_⟩) (by assumption) ?_
  rotate_left
  · intro w hSw; (try dsimp only at hSw); go_simp; try (with_reducible rfl)
  try simp only [Act.put, List.setIfInBounds_toArray, List.set_cons_zero, List.set_cons_succ]
  refine wpAnyH_take (i := 8) (oi := { dst := some 11, op := Op.load 22 (Operand.tmp 10), type := 22, pos := "ref.go:62", after := #[{ on := 7, ground := Ground.data }], guard := none }) (v := ?_) rfl (by kernel_rfl) (by kernel_rfl) (by kernel_rfl) (fun _ _ _ h => h) (Or.inl ⟨by rfl, ?_⟩) (by assumption) ?_
  rotate_left
  · intro w hSw; (try dsimp only at hSw); go_simp; try (with_reducible rfl)
  try simp only [Act.put, List.setIfInBounds_toArray, List.set_cons_zero, List.set_cons_succ]
  clear hHeld
  refine wpAnyH_ready (rs := [6]) (by kernel_rfl) (by simp) ?_
  refine AllReadyH.cons (o := { dst := some 9, op := Op.call { callee := Callee.builtin Builtin.append, args := #[Operand.const (Value.slice none 0 0), Operand.tmp 8], argTypes := #[22, 22] }, type := 22, pos := "ref.go:62", after := #[{ on := 5, ground := Ground.data }], guard := none }) rfl (fun K hK => ?_) AllReadyH.nil
  have nw6 := news_of (Vals.stays HI.out (by rw [← HA.out]; exact cs0.below))
  have sz6 := heap_lt cs0.hr
  refine step_append_lies _ rfl _ _ 22 rfl A 3 i0 (.int .i64 0) 1 8 Try.underlying22 HIN.out.1 HIN.out.2.1 HIN.out.2.2.1 HIN.out.2.2.2 rfl (by decide) (.slice none 0 0) 0 [] rfl (World.ownsRow_nil _ _ _ _) ⟨b, off, none⟩ n _ (vals n (iv Z)) rfl (by simp [vals_length]) nw6 (vals_one (fun _ => rfl)) (by omega) (by unfold maxLen; omega) (by omega) (by omega) _ rfl ?_
  intro g6 c6 u6 ow6 gr6 at6 lt6
  rw [Nat.zero_add, List.nil_append] at ow6
  have gg6 := Nat.le_of_eq (own_nil at6).symm
  clear at6
  have be6 : Below (A + 2) _ u6 := (Below.refl _ _).grown gr6 (by omega) (by intro k hk; simp [Value.ownBlock] at hk)
  have si6 := be6.size
  try rw [Nat.zero_add]
  refine hK.out _ _ (cx_keep (And.intro cs0 trivial) be6) (fun _ => ?_)
  clear hK K
  try simp only [Act.put, List.setIfInBounds_toArray, List.set_cons_zero, List.set_cons_succ]
  have cs6 := cx_of (cx_keep (And.intro cs0 trivial) be6)
  refine wpAnyH_ready (rs := [9]) (by kernel_rfl) (by simp) ?_
  refine AllReadyH.cons (o := { dst := some 12, op := Op.call { callee := Callee.builtin Builtin.append, args := #[Operand.const (Value.slice none 0 0), Operand.tmp 11], argTypes := #[22, 22] }, type := 22, pos := "ref.go:62", after := #[{ on := 8, ground := Ground.data }, { on := 6, ground := Ground.chain }], guard := none }) rfl (fun K hK => ?_) AllReadyH.nil
  have nw9 := news_of (Vals.stays HB.out (by rw [← HA.out]; exact cs6.below))
  have sz9 := heap_lt cs6.hr
  refine step_append_lies _ rfl _ _ 22 rfl A 3 i0 (.int .i64 0) 1 8 Try.underlying22 HIN.out.1 HIN.out.2.1 HIN.out.2.2.1 HIN.out.2.2.2 rfl (by decide) (.slice none 0 0) 0 [] rfl (World.ownsRow_nil _ _ _ _) ⟨b', off', none⟩ n _ (vals n (iv Y)) rfl (by simp [vals_length]) nw9 (vals_one (fun _ => rfl)) (by omega) (by unfold maxLen; omega) (by omega) (by omega) _ rfl ?_
  intro g9 c9 u9 ow9 gr9 at9 lt9
  rw [Nat.zero_add, List.nil_append] at ow9
  have gg9 := Nat.le_of_eq (own_nil at9).symm
  clear at9
  have be9 : Below (A + 2) _ u9 := (Below.refl _ _).grown gr9 (by omega) (by intro k hk; simp [Value.ownBlock] at hk)
  have si9 := be9.size
  try rw [Nat.zero_add]
  refine hK.out _ _ (cx_keep (And.intro cs6 trivial) be9) (fun _ => ?_)
  clear hK K
  try simp only [Act.put, List.setIfInBounds_toArray, List.set_cons_zero, List.set_cons_succ]
  have cs9 := cx_of (cx_keep (And.intro cs6 trivial) be9)
  have ow6_9 := row_grown ow6 gr9 (by simp [Value.ownBlock])
  refine wpAnyH_take (i := 10) (oi := { dst := some 13, op := Op.build 24 #[(0, Operand.tmp 4), (1, Operand.tmp 6), (2, Operand.tmp 9), (3, Operand.tmp 12)], type := 24, pos := "ref.go:62", after := #[{ on := 1, ground := Ground.data }, { on := 3, ground := Ground.data }, { on := 6, ground := Ground.data }, { on := 9, ground := Ground.data }], guard := none }) (v := ?_) rfl (by kernel_rfl) (by kernel_rfl) (by kernel_rfl) (fun _ _ _ h => h) (Or.inl ⟨by rfl, ?_⟩) (by assumption) ?_
  rotate_left
  · intro w hSw; (try dsimp only at hSw); go_simp; try (with_reducible rfl)
  try simp only [Act.put, List.setIfInBounds_toArray, List.set_cons_zero, List.set_cons_succ]
  refine wpAnyH_ready (rs := [11]) (by kernel_rfl) (by simp) ?_
  refine AllReadyH.cons (o := { dst := none, op := Op.store 24 (Operand.tmp 2) (Operand.tmp 13), type := 0, pos := "ref.go:62", after := #[{ on := 10, ground := Ground.data }, { on := 9, ground := Ground.chain }, { on := 0, ground := Ground.phase }, { on := 1, ground := Ground.phase }, { on := 2, ground := Ground.phase }, { on := 3, ground := Ground.phase }, { on := 4, ground := Ground.phase }, { on := 5, ground := Ground.phase }, { on := 6, ground := Ground.phase }, { on := 7, ground := Ground.phase }, { on := 8, ground := Ground.phase }, { on := 9, ground := Ground.phase }, { on := 10, ground := Ground.phase }], guard := none }) rfl (fun K hK => ?_) AllReadyH.nil
  obtain ⟨x0, x1, x2, x3, hres⟩ := cs9.hres
  have r0 := cell_of_row u9 (A + 1) 0 _ _ _ hres
  have f0 := frozen_of_row u9 (A + 1) 0 _ _ hres
  have r1 := cell_of_row u9 (A + 1) 1 _ _ _ hres
  have f1 := frozen_of_row u9 (A + 1) 1 _ _ hres
  have r2 := cell_of_row u9 (A + 1) 2 _ _ _ hres
  have f2 := frozen_of_row u9 (A + 1) 2 _ _ hres
  have r3 := cell_of_row u9 (A + 1) 3 _ _ _ hres
  have f3 := frozen_of_row u9 (A + 1) 3 _ _ hres
  simp only [List.getElem?_toArray, List.getElem?_cons_zero, List.getElem?_cons_succ] at r0 r1 r2 r3
  have hne : g6 ≠ g9 := by omega
  have h6 := (ow6_9.lt g6 rfl).1
  have hl := heap_lt hres
  have FI := hid (Fin4.mk (W := W) (H := H) hres cs9.below ow6_9 ow9 (by omega) (by omega))
  have FC := hid (cs9.hb)
  go_simp
  refine hK.out _ _ (cx_set (And.intro cs9 trivial) _ _ _ _) (fun _ => ?_)
  clear hK K
  try simp only [Act.put, List.setIfInBounds_toArray, List.set_cons_zero, List.set_cons_succ]
  refine wpAnyH_done (by kernel_rfl) ?_ _
  clear r0 r1 r2 r3 f0 f1 f2 f3
  go_wp2_with fail
  have k3 := set4 FI.out.res (.int .i64 W) (.int .i64 H) (.slice (some ⟨g6, 0, none⟩) n c6) (.slice (some ⟨g9, 0, none⟩) n c9)
  have k4 := set4_below (g := A + 1) FI.out.below (Nat.le_succ _) (.int .i64 W) (.int .i64 H) (.slice (some ⟨g6, 0, none⟩) n c6) (.slice (some ⟨g9, 0, none⟩) n c9)
  have k5 := set4_row (g := A + 1) FI.out.row1 (by simpa [Value.ownBlock] using FI.out.ng) (.int .i64 W) (.int .i64 H) (.slice (some ⟨g6, 0, none⟩) n c6) (.slice (some ⟨g9, 0, none⟩) n c9)
  have k6 := set4_row (g := A + 1) FI.out.row2 (by simpa [Value.ownBlock] using FI.out.nk) (.int .i64 W) (.int .i64 H) (.slice (some ⟨g6, 0, none⟩) n c6) (.slice (some ⟨g9, 0, none⟩) n c9)
  generalize World.setCell _ _ _ = w5 at k3 k4 k5 k6 ⊢
  have q0 := cell_of_row w5 (A + 1) 0 _ _ _ k3
  have q1 := cell_of_row w5 (A + 1) 1 _ _ _ k3
  have q2 := cell_of_row w5 (A + 1) 2 _ _ _ k3
  have q3 := cell_of_row w5 (A + 1) 3 _ _ _ k3
  simp only [List.getElem?_toArray, List.getElem?_cons_zero, List.getElem?_cons_succ] at q0 q1 q2 q3
  exact bodyPost_ret (v := rv W H (.slice (some ⟨g6, 0, none⟩) n c6) (.slice (some ⟨g9, 0, none⟩) n c9)) (by simp [results, Try.results50, go_sem, q0, q1, q2, q3]) rfl ⟨g6, c6, g9, c9, rfl, by rw [← HA.out]; exact k5, by rw [← HA.out]; exact k6, hne, by rw [← HA.out]; exact k4⟩
end Go.Proofs.Ytaepiegbpgkciaa
