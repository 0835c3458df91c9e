/-
  The walk of the reference's Copy: rails in memory of their own.
-/
import Derived.Test.YtlpmahdplilbiaaDoorWalkClone
import Derived.Deep.RegionHeld3
namespace Go.Proofs.YtlpmahdplilbiaaDoor
open Go.RowKit

/-- The two boxes of Copy, whatever the result's holds. -/
structure Cx (A : Nat) (bx : Array Value) (w wr : World) : Prop where
  below : Below A w wr
  hb : wr.heap[A]? = some (.cells bx 25 (0, 0))
  hres : ∃ q0 q1 q2 q3, wr.heap[A + 1]? = some (.cells #[q0, q1, q2, q3] 25 (0, 0))
section
variable {A : Nat} {x0 x1 x2 x3 : Value} {bx : Array Value} {w a b : World} {p : Prop}
theorem Cx.hr (h : Cx A bx w a) : a.heap[A + 1]? = some (a.heap[A + 1]'(by obtain ⟨_, _, _, _, h⟩ := h.hres; exact heap_lt h)) := Array.getElem?_eq_getElem _
theorem cx_of (h : Cx A bx w a ∧ p) : Cx A bx w a := h.1
theorem cx_keep (h : Cx A #[x0, x1, x2, x3] w a ∧ p) (k : Below (A + 2) a b) : Cx A #[x0, x1, x2, x3] w b ∧ b.cell? ⟨A, 0, none⟩ = some x0 ∧ b.cell? ⟨A, 1, none⟩ = some x1 ∧ b.cell? ⟨A, 2, none⟩ = some x2 ∧ b.cell? ⟨A, 3, none⟩ = some x3 := by
  obtain ⟨q0, q1, q2, q3, hq⟩ := h.1.hres
  have h' : Cx A #[x0, x1, x2, x3] w b := ⟨h.1.below.trans (k.mono (by omega)), (k.block _ (by omega)).trans h.1.hb, q0, q1, q2, q3, (k.block _ (by omega)).trans hq⟩
  exact ⟨h', cell_of_row b A 0 _ _ _ h'.hb, cell_of_row b A 1 _ _ _ h'.hb, cell_of_row b A 2 _ _ _ h'.hb, cell_of_row b A 3 _ _ _ h'.hb⟩
theorem cx_set (h : Cx A #[x0, x1, x2, x3] w a ∧ p) (y0 y1 y2 y3 : Value) :
    Cx A #[x0, x1, x2, x3] w ((((a.setCell ⟨A + 1, 0, none⟩ y0).setCell ⟨A + 1, 1, none⟩ y1).setCell ⟨A + 1, 2, none⟩ y2).setCell ⟨A + 1, 3, none⟩ y3) ∧
    ((((a.setCell ⟨A + 1, 0, none⟩ y0).setCell ⟨A + 1, 1, none⟩ y1).setCell ⟨A + 1, 2, none⟩ y2).setCell ⟨A + 1, 3, none⟩ y3).cell? ⟨A, 0, none⟩ = some x0 ∧ ((((a.setCell ⟨A + 1, 0, none⟩ y0).setCell ⟨A + 1, 1, none⟩ y1).setCell ⟨A + 1, 2, none⟩ y2).setCell ⟨A + 1, 3, none⟩ y3).cell? ⟨A, 1, none⟩ = some x1 ∧
    ((((a.setCell ⟨A + 1, 0, none⟩ y0).setCell ⟨A + 1, 1, none⟩ y1).setCell ⟨A + 1, 2, none⟩ y2).setCell ⟨A + 1, 3, none⟩ y3).cell? ⟨A, 2, none⟩ = some x2 ∧ ((((a.setCell ⟨A + 1, 0, none⟩ y0).setCell ⟨A + 1, 1, none⟩ y1).setCell ⟨A + 1, 2, none⟩ y2).setCell ⟨A + 1, 3, none⟩ y3).cell? ⟨A, 3, none⟩ = some x3 := by
  obtain ⟨q0, q1, q2, q3, hq⟩ := h.1.hres
  have hb : ((((a.setCell ⟨A + 1, 0, none⟩ y0).setCell ⟨A + 1, 1, none⟩ y1).setCell ⟨A + 1, 2, none⟩ y2).setCell ⟨A + 1, 3, none⟩ y3).heap[A]? = some (.cells #[x0, x1, x2, x3] 25 (0, 0)) := by
    rw [Below.heap_setCell _ _ _ A (by simp), Below.heap_setCell _ _ _ A (by simp), Below.heap_setCell _ _ _ A (by simp), Below.heap_setCell _ _ _ A (by simp)]; exact h.1.hb
  exact ⟨⟨set4_below h.1.below (Nat.le_succ _) _ _ _ _, hb, _, _, _, _, set4 hq _ _ _ _⟩, cell_of_row _ A 0 _ _ _ hb, cell_of_row _ A 1 _ _ _ hb, cell_of_row _ A 2 _ _ _ hb, cell_of_row _ A 3 _ _ _ hb⟩
theorem cx_alloc (h : Cx A bx w a) (o : Obj) : Below (A + 2) a (a.alloc o) := (Below.refl _ _).alloc (by have := heap_lt h.hr; omega) _
theorem cx_drew (a : World) : Below (A + 2) a a.drew := (Below.refl _ _).drew
theorem cx_start (h : Bx2 A 25 25 bx #[x0, x1, x2, x3] w a) : Cx A bx w a := ⟨h.below, h.hb, _, _, _, _, h.hr⟩
theorem row_grown {B n size : Nat} {e : TypeId} {v : Value} {xs : List Value} {r : Option Nat} (h : a.ownsRow B e size v n xs) (hg : a.grownBy b r) (hv : v.ownBlock ≠ r) : b.ownsRow B e size v n xs := by
  refine ⟨h.1, ?_⟩
  have hlt := fun k hk => (h.lt k hk).2
  rcases h.2 with hn | ⟨g, cap, cur, rfl, hB, hgb, rest⟩
  · exact .inl hn
  · refine .inr ⟨g, cap, cur, rfl, hB, ?_, rest⟩
    rw [hg.block g (hlt g rfl) hv]
    exact hgb
theorem news_of {F : Nat → Value} {n c off : Nat} (h : Vals a (some ⟨c, off, none⟩) n F) : ∀ j u, (vals n F)[j]? = some u → a.cell? ((⟨c, off, none⟩ : Addr).add j) = some u := fun j u hj => by
  have hjn : j < n := by have := (List.getElem?_eq_some_iff.1 hj).1; rwa [vals_length] at this
  rw [vals_get _ hjn] at hj
  obtain ⟨b', o', e, _, hc⟩ := h j hjn
  cases e
  rw [Addr.add_lit, hc]; exact hj
theorem vals_one {F : Nat → Value} {n : Nat} (h : ∀ j, (F j).oneCell' = true) : ∀ u ∈ vals n F, u.oneCell' = true := by
  intro u hu
  obtain ⟨x, _, rfl⟩ := List.mem_map.1 hu
  exact h x
theorem own_or {g k H : Nat} (h : (Value.slice (some ⟨k, 0, none⟩) 0 0).ownBlock = some g ∨ g = H) : g = k ∨ g = H := by
  rcases h with h | h
  · simp [Value.ownBlock] at h; exact .inl h.symm
  · exact .inr h
end
/-- What is known ahead of the last store. -/
structure Fin4 (W H : Int) (A n g c k d : Nat) (Z : Nat → Int) (B : Nat → Bool) (q0 q1 q2 q3 : Value) (w a : World) : Prop where
  mk ::
  res : a.heap[A + 1]? = some (.cells #[q0, q1, q2, q3] 25 (0, 0))
  below : Below A w a
  row1 : a.ownsRow A 3 1 (.slice (some ⟨g, 0, none⟩) n c) n (vals n (iv Z))
  row2 : a.ownsRow A 4 1 (.slice (some ⟨k, 0, none⟩) n d) n (vals n (bv B))
  ng : g ≠ A + 1
  nk : k ≠ A + 1

set_option maxRecDepth 20000 in
set_option maxHeartbeats 6400000 in
theorem copy_any (W H : Int) (ao : Option Addr) (n cap : Nat) (Z : Nat → Int) (bo : Option Addr) (bcap : Nat) (B : Nat → Bool) (hn1 : 0 < n) (hn : n ≤ 1089) (w : World) (hI : Ints w ao n Z) (hB : Bools w bo n B) :
    Calls Tryd.prog 49 #[rv W H (.slice ao n cap) (.slice bo n bcap)] w (Cloned W H n Z B w) := by
  have hst := bx2_start w 25 25 #[.int .i64 W, .int .i64 H, .slice ao n cap, .slice bo n bcap] #[.int .i64 0, .int .i64 0, .slice none 0 0, .slice none 0 0]
  have HI := hid hI
  have HB := hid hB
  have HST := hid hst
  obtain ⟨b, off, rfl, hbz, hcx⟩ := hI.one hn1
  obtain ⟨b', off', rfl, hbz', hcx'⟩ := hB.one hn1
  obtain ⟨i0, hi0, hi1, hi2, hi3⟩ := info_parts info3
  have HIN := hid (And.intro hi0 (And.intro hi1 (And.intro hi2 hi3)))
  obtain ⟨j0, hj0, hj1, hj2, hj3⟩ := info_parts info4
  have HJN := hid (And.intro hj0 (And.intro hj1 (And.intro hj2 hj3)))
  clear hI hB hst hi0 hi1 hi2 hi3 hj0 hj1 hj2 hj3 hcx hcx'
  go_enter Tryd.func49, Tryd.ntmps49
  go_wp2_with fail
  obtain ⟨A, hA⟩ : ∃ A, A = w.heap.size := ⟨_, rfl⟩
  have HA := hid hA
  simp only [← hA] at HST hbz hbz' ⊢
  clear hA
  generalize World.alloc _ _ = w0 at HST ⊢
  have cs0 := cx_of (cx_keep (And.intro (cx_start HST.out) trivial) (cx_drew w0))
  have hz0 : A + 1 < w0.heap.size := heap_lt cs0.hr
  refine wp_region_held_drew (S := (fun w' => Cx A #[.int .i64 W, .int .i64 H, .slice (some ⟨b, off, none⟩) n cap, .slice (some ⟨b', off', none⟩) n bcap] w w' ∧ w'.cell? ⟨A, 0, none⟩ = some (.int .i64 W) ∧ w'.cell? ⟨A, 1, none⟩ = some (.int .i64 H) ∧ w'.cell? ⟨A, 2, none⟩ = some (.slice (some ⟨b, off, none⟩) n cap) ∧ w'.cell? ⟨A, 3, none⟩ = some (.slice (some ⟨b', off', none⟩) n bcap))) (by kernel_rfl) (cx_keep (And.intro (cx_start HST.out) trivial) (cx_drew w0)) (fun hHeld => ?_)
  refine wpAnyH_take (i := 0) (oi := { dst := some 3, op := Op.fieldAddr 25 (Operand.tmp 1) 0, type := 0, pos := "ref.go:132", after := #[], guard := none }) (v := ?_) rfl (by kernel_rfl) (by kernel_rfl) (by kernel_rfl) (fun _ _ _ h => h) (Or.inl ⟨by rfl, ?_⟩) (by assumption) ?_
  rotate_left
  · intro w hSw; (try dsimp only at hSw); go_simp; try (with_reducible rfl)
  try simp only [Act.put, List.setIfInBounds_toArray, List.set_cons_zero, List.set_cons_succ]
  refine wpAnyH_take (i := 1) (oi := { dst := some 4, op := Op.load 3 (Operand.tmp 3), type := 3, pos := "ref.go:132", after := #[{ on := 0, ground := Ground.data }], guard := none }) (v := ?_) rfl (by kernel_rfl) (by kernel_rfl) (by kernel_rfl) (fun _ _ _ h => h) (Or.inl ⟨by rfl, ?_⟩) (by assumption) ?_
  rotate_left
  · intro w hSw; (try dsimp only at hSw); go_simp; try (with_reducible rfl)
  try simp only [Act.put, List.setIfInBounds_toArray, List.set_cons_zero, List.set_cons_succ]
  refine wpAnyH_take (i := 2) (oi := { dst := some 5, op := Op.fieldAddr 25 (Operand.tmp 1) 1, type := 0, pos := "ref.go:132", after := #[], guard := none }) (v := ?_) rfl (by kernel_rfl) (by kernel_rfl) (by kernel_rfl) (fun _ _ _ h => h) (Or.inl ⟨by rfl, ?_⟩) (by assumption) ?_
  rotate_left
  · intro w hSw; (try dsimp only at hSw); go_simp; try (with_reducible rfl)
  try simp only [Act.put, List.setIfInBounds_toArray, List.set_cons_zero, List.set_cons_succ]
  refine wpAnyH_take (i := 3) (oi := { dst := some 6, op := Op.load 3 (Operand.tmp 5), type := 3, pos := "ref.go:132", after := #[{ on := 2, ground := Ground.data }], guard := none }) (v := ?_) rfl (by kernel_rfl) (by kernel_rfl) (by kernel_rfl) (fun _ _ _ h => h) (Or.inl ⟨by rfl, ?_⟩) (by assumption) ?_
  rotate_left
  · intro w hSw; (try dsimp only at hSw); go_simp; try (with_reducible rfl)
  try simp only [Act.put, List.setIfInBounds_toArray, List.set_cons_zero, List.set_cons_succ]
  refine wpAnyH_take (i := 5) (oi := { dst := some 8, op := Op.fieldAddr 25 (Operand.tmp 1) 2, type := 0, pos := "ref.go:132", after := #[], guard := none }) (v := ?_) rfl (by kernel_rfl) (by kernel_rfl) (by kernel_rfl) (fun _ _ _ h => h) (Or.inl ⟨by rfl, ?_⟩) (by assumption) ?_
  rotate_left
  · intro w hSw; (try dsimp only at hSw); go_simp; try (with_reducible rfl)
  try simp only [Act.put, List.setIfInBounds_toArray, List.set_cons_zero, List.set_cons_succ]
  refine wpAnyH_take (i := 6) (oi := { dst := some 9, op := Op.load 22 (Operand.tmp 8), type := 22, pos := "ref.go:132", after := #[{ on := 5, ground := Ground.data }], guard := none }) (v := ?_) rfl (by kernel_rfl) (by kernel_rfl) (by kernel_rfl) (fun _ _ _ h => h) (Or.inl ⟨by rfl, ?_⟩) (by assumption) ?_
  rotate_left
  · intro w hSw; (try dsimp only at hSw); go_simp; try (with_reducible rfl)
  try simp only [Act.put, List.setIfInBounds_toArray, List.set_cons_zero, List.set_cons_succ]
  refine wpAnyH_take (i := 9) (oi := { dst := some 12, op := Op.fieldAddr 25 (Operand.tmp 1) 3, type := 0, pos := "ref.go:132", after := #[], guard := none }) (v := ?_) rfl (by kernel_rfl) (by kernel_rfl) (by kernel_rfl) (fun _ _ _ h => h) (Or.inl ⟨by rfl, ?_⟩) (by assumption) ?_
  rotate_left
  · intro w hSw; (try dsimp only at hSw); go_simp; try (with_reducible rfl)
  try simp only [Act.put, List.setIfInBounds_toArray, List.set_cons_zero, List.set_cons_succ]
  refine wpAnyH_take (i := 10) (oi := { dst := some 13, op := Op.load 23 (Operand.tmp 12), type := 23, pos := "ref.go:132", after := #[{ on := 9, ground := Ground.data }], guard := none }) (v := ?_) rfl (by kernel_rfl) (by kernel_rfl) (by kernel_rfl) (fun _ _ _ h => h) (Or.inl ⟨by rfl, ?_⟩) (by assumption) ?_
  rotate_left
  · intro w hSw; (try dsimp only at hSw); go_simp; try (with_reducible rfl)
  try simp only [Act.put, List.setIfInBounds_toArray, List.set_cons_zero, List.set_cons_succ]
  clear hHeld
  refine wpAnyH_ready (rs := [4, 8]) (by kernel_rfl) (by simp) ?_
  refine AllReadyH.cons (o := { dst := some 7, op := Op.buildSlice 22 0 #[], type := 22, pos := "ref.go:132", after := #[], guard := none }) rfl (fun K hK => ?_) (AllReadyH.cons (o := { dst := some 11, op := Op.buildSlice 23 0 #[], type := 23, pos := "ref.go:132", after := #[], guard := none }) rfl (fun K hK => ?_) AllReadyH.nil)
  · skip
    go_simp
    have be4 : Below (A + 2) w0.drew (w0.alloc (.cells #[] 3)).drew := cx_alloc cs0 (.cells #[] 3)
    refine hK.out _ _ (cx_keep (And.intro cs0 trivial) be4) (fun _ => ?_)
    clear hK K
    try simp only [Act.put, List.setIfInBounds_toArray, List.set_cons_zero, List.set_cons_succ]
    have sa4 : (w0.alloc (.cells #[] 3)).drew.heap.size ≤ w0.heap.size + 1 := by simp
    have sb4 : w0.heap.size + 1 ≤ (w0.alloc (.cells #[] 3)).drew.heap.size := by simp
    have rq4 : (w0.alloc (.cells #[] 3)).drew.ownsRow A 3 1 (.slice (some ⟨w0.drew.heap.size, 0, none⟩) 0 0) 0 [] := World.ownsRow_made w0.drew #[] 0 (by have := heap_lt cs0.hr; omega) (Nat.zero_le _) rfl
    have ro4 : (w0.alloc (.cells #[] 3)).drew.ownsRow A 3 1 (.slice (some ⟨w0.heap.size, 0, none⟩) 0 0) 0 [] := by rwa [show w0.drew.heap.size = w0.heap.size by simp] at rq4
    have cs4 := cx_of (cx_keep (And.intro cs0 trivial) be4)
    refine wpAnyH_ready (rs := [7, 8]) (by kernel_rfl) (by simp) ?_
    refine AllReadyH.cons (o := { dst := some 10, op := Op.call { callee := Callee.builtin Builtin.append, args := #[Operand.tmp 7, Operand.tmp 9], argTypes := #[22, 22] }, type := 22, pos := "ref.go:132", after := #[{ on := 4, ground := Ground.data }, { on := 6, ground := Ground.data }], guard := none }) rfl (fun K hK => ?_) (AllReadyH.cons (o := { dst := some 11, op := Op.buildSlice 23 0 #[], type := 23, pos := "ref.go:132", after := #[], guard := none }) rfl (fun K hK => ?_) AllReadyH.nil)
    · skip
      have nw7 := news_of (Vals.stays HI.out (by rw [← HA.out]; exact cs4.below))
      have sz7 := heap_lt cs4.hr
      refine step_append_lies _ rfl _ _ 22 rfl A 3 i0 (.int .i64 0) 1 8 Tryd.underlying22 HIN.out.1 HIN.out.2.1 HIN.out.2.2.1 HIN.out.2.2.2 rfl (by decide) (.slice (some ⟨w0.heap.size, 0, none⟩) 0 0) 0 [] rfl ro4 ⟨b, off, none⟩ n _ (vals n (iv Z)) rfl (by simp [vals_length]) nw7 (vals_one (fun _ => rfl)) (by omega) (by unfold maxLen; omega) (by omega) (by omega) _ rfl ?_
      intro g7 c7 u7 ow7 gr7 at7 lt7
      rw [Nat.zero_add, List.nil_append] at ow7
      have gg7 := own_or at7
      have be7 : Below (A + 2) _ u7 := (Below.refl _ _).grown gr7 (by omega) (by intro k hk; simp only [Value.ownBlock, Option.some.injEq] at hk; omega)
      have si7 := be7.size
      try rw [Nat.zero_add]
      refine hK.out _ _ (cx_keep (And.intro cs4 trivial) be7) (fun _ => ?_)
      clear hK K
      try simp only [Act.put, List.setIfInBounds_toArray, List.set_cons_zero, List.set_cons_succ]
      have cs7 := cx_of (cx_keep (And.intro cs4 trivial) be7)
      refine wpAnyH_ready (rs := [8]) (by kernel_rfl) (by simp) ?_
      refine AllReadyH.cons (o := { dst := some 11, op := Op.buildSlice 23 0 #[], type := 23, pos := "ref.go:132", after := #[], guard := none }) rfl (fun K hK => ?_) AllReadyH.nil
      go_simp
      have be8 : Below (A + 2) u7 (u7.alloc (.cells #[] 4)) := cx_alloc cs7 (.cells #[] 4)
      refine hK.out _ _ (cx_keep (And.intro cs7 trivial) be8) (fun _ => ?_)
      clear hK K
      try simp only [Act.put, List.setIfInBounds_toArray, List.set_cons_zero, List.set_cons_succ]
      have sa8 : (u7.alloc (.cells #[] 4)).heap.size ≤ u7.heap.size + 1 := by simp
      have sb8 : u7.heap.size + 1 ≤ (u7.alloc (.cells #[] 4)).heap.size := by simp
      have rq8 : (u7.alloc (.cells #[] 4)).ownsRow A 4 1 (.slice (some ⟨u7.heap.size, 0, none⟩) 0 0) 0 [] := World.ownsRow_made u7 #[] 0 (by have := heap_lt cs7.hr; omega) (Nat.zero_le _) rfl
      have ro8 : (u7.alloc (.cells #[] 4)).ownsRow A 4 1 (.slice (some ⟨u7.heap.size, 0, none⟩) 0 0) 0 [] := by rwa [show u7.heap.size = u7.heap.size by simp] at rq8
      have cs8 := cx_of (cx_keep (And.intro cs7 trivial) be8)
      have ow7_8 := row_stays ow7 (show Below u7.heap.size u7 (u7.alloc (.cells #[] 4)) from Joins.below_alloc1 _ (.cells #[] 4))
      refine wpAnyH_ready (rs := [11]) (by kernel_rfl) (by simp) ?_
      refine AllReadyH.cons (o := { dst := some 14, op := Op.call { callee := Callee.builtin Builtin.append, args := #[Operand.tmp 11, Operand.tmp 13], argTypes := #[23, 23] }, type := 23, pos := "ref.go:132", after := #[{ on := 8, ground := Ground.data }, { on := 10, ground := Ground.data }, { on := 7, ground := Ground.chain }], guard := none }) rfl (fun K hK => ?_) AllReadyH.nil
      have nw11 := news_of (Vals.stays HB.out (by rw [← HA.out]; exact cs8.below))
      have sz11 := heap_lt cs8.hr
      refine step_append_lies _ rfl _ _ 23 rfl A 4 j0 (.bool false) 1 1 Tryd.underlying23 HJN.out.1 HJN.out.2.1 HJN.out.2.2.1 HJN.out.2.2.2 rfl (by decide) (.slice (some ⟨u7.heap.size, 0, none⟩) 0 0) 0 [] rfl ro8 ⟨b', off', none⟩ n _ (vals n (bv B)) rfl (by simp [vals_length]) nw11 (vals_one (fun _ => rfl)) (by omega) (by unfold maxLen; omega) (by omega) (by omega) _ rfl ?_
      intro g11 c11 u11 ow11 gr11 at11 lt11
      rw [Nat.zero_add, List.nil_append] at ow11
      have gg11 := own_or at11
      have be11 : Below (A + 2) _ u11 := (Below.refl _ _).grown gr11 (by omega) (by intro k hk; simp only [Value.ownBlock, Option.some.injEq] at hk; omega)
      have si11 := be11.size
      try rw [Nat.zero_add]
      refine hK.out _ _ (cx_keep (And.intro cs8 trivial) be11) (fun _ => ?_)
      clear hK K
      try simp only [Act.put, List.setIfInBounds_toArray, List.set_cons_zero, List.set_cons_succ]
      have cs11 := cx_of (cx_keep (And.intro cs8 trivial) be11)
      have ow7_8_11 := row_grown ow7_8 gr11 (by simp only [Value.ownBlock, ne_eq, Option.some.injEq]; omega)
      refine wpAnyH_take (i := 12) (oi := { dst := some 15, op := Op.build 25 #[(0, Operand.tmp 4), (1, Operand.tmp 6), (2, Operand.tmp 10), (3, Operand.tmp 14)], type := 25, pos := "ref.go:132", after := #[{ on := 1, ground := Ground.data }, { on := 3, ground := Ground.data }, { on := 7, ground := Ground.data }, { on := 11, ground := Ground.data }], guard := none }) (v := ?_) rfl (by kernel_rfl) (by kernel_rfl) (by kernel_rfl) (fun _ _ _ h => h) (Or.inl ⟨by rfl, ?_⟩) (by assumption) ?_
      rotate_left
      · intro w hSw; (try dsimp only at hSw); go_simp; try (with_reducible rfl)
      try simp only [Act.put, List.setIfInBounds_toArray, List.set_cons_zero, List.set_cons_succ]
      refine wpAnyH_ready (rs := [13]) (by kernel_rfl) (by simp) ?_
      refine AllReadyH.cons (o := { dst := none, op := Op.store 25 (Operand.tmp 2) (Operand.tmp 15), type := 0, pos := "ref.go:132", after := #[{ on := 12, ground := Ground.data }, { on := 11, ground := Ground.chain }, { on := 0, ground := Ground.phase }, { on := 1, ground := Ground.phase }, { on := 2, ground := Ground.phase }, { on := 3, ground := Ground.phase }, { on := 4, ground := Ground.phase }, { on := 5, ground := Ground.phase }, { on := 6, ground := Ground.phase }, { on := 7, ground := Ground.phase }, { on := 8, ground := Ground.phase }, { on := 9, ground := Ground.phase }, { on := 10, ground := Ground.phase }, { on := 11, ground := Ground.phase }, { on := 12, ground := Ground.phase }], guard := none }) rfl (fun K hK => ?_) AllReadyH.nil
      obtain ⟨x0, x1, x2, x3, hres⟩ := cs11.hres
      have r0 := cell_of_row u11 (A + 1) 0 _ _ _ hres
      have f0 := frozen_of_row u11 (A + 1) 0 _ _ hres
      have r1 := cell_of_row u11 (A + 1) 1 _ _ _ hres
      have f1 := frozen_of_row u11 (A + 1) 1 _ _ hres
      have r2 := cell_of_row u11 (A + 1) 2 _ _ _ hres
      have f2 := frozen_of_row u11 (A + 1) 2 _ _ hres
      have r3 := cell_of_row u11 (A + 1) 3 _ _ _ hres
      have f3 := frozen_of_row u11 (A + 1) 3 _ _ hres
      simp only [List.getElem?_toArray, List.getElem?_cons_zero, List.getElem?_cons_succ] at r0 r1 r2 r3
      have hne : g7 ≠ g11 := by omega
      have h7 := (ow7_8_11.lt g7 rfl).1
      have hl := heap_lt hres
      have FI := hid (Fin4.mk (W := W) (H := H) hres cs11.below ow7_8_11 ow11 (by omega) (by omega))
      have FC := hid (cs11.hb)
      go_simp
      refine hK.out _ _ (cx_set (And.intro cs11 trivial) _ _ _ _) (fun _ => ?_)
      clear hK K
      try simp only [Act.put, List.setIfInBounds_toArray, List.set_cons_zero, List.set_cons_succ]
      refine wpAnyH_done (by kernel_rfl) ?_ _
      clear r0 r1 r2 r3 f0 f1 f2 f3
      go_wp2_with fail
      have k3 := set4 FI.out.res (.int .i64 W) (.int .i64 H) (.slice (some ⟨g7, 0, none⟩) n c7) (.slice (some ⟨g11, 0, none⟩) n c11)
      have k4 := set4_below (g := A + 1) FI.out.below (Nat.le_succ _) (.int .i64 W) (.int .i64 H) (.slice (some ⟨g7, 0, none⟩) n c7) (.slice (some ⟨g11, 0, none⟩) n c11)
      have k5 := set4_row (g := A + 1) FI.out.row1 (by simpa [Value.ownBlock] using FI.out.ng) (.int .i64 W) (.int .i64 H) (.slice (some ⟨g7, 0, none⟩) n c7) (.slice (some ⟨g11, 0, none⟩) n c11)
      have k6 := set4_row (g := A + 1) FI.out.row2 (by simpa [Value.ownBlock] using FI.out.nk) (.int .i64 W) (.int .i64 H) (.slice (some ⟨g7, 0, none⟩) n c7) (.slice (some ⟨g11, 0, none⟩) n c11)
      generalize World.setCell _ _ _ = w5 at k3 k4 k5 k6 ⊢
      have q0 := cell_of_row w5 (A + 1) 0 _ _ _ k3
      have q1 := cell_of_row w5 (A + 1) 1 _ _ _ k3
      have q2 := cell_of_row w5 (A + 1) 2 _ _ _ k3
      have q3 := cell_of_row w5 (A + 1) 3 _ _ _ k3
      simp only [List.getElem?_toArray, List.getElem?_cons_zero, List.getElem?_cons_succ] at q0 q1 q2 q3
      exact bodyPost_ret (v := rv W H (.slice (some ⟨g7, 0, none⟩) n c7) (.slice (some ⟨g11, 0, none⟩) n c11)) (by simp [results, Tryd.results49, go_sem, q0, q1, q2, q3]) rfl ⟨g7, c7, g11, c11, rfl, by rw [← HA.out]; exact k5, by rw [← HA.out]; exact k6, hne, by rw [← HA.out]; exact k4⟩
    · skip
      go_simp
      have be8 : Below (A + 2) (w0.alloc (.cells #[] 3)).drew ((w0.alloc (.cells #[] 3)).alloc (.cells #[] 4)).drew := cx_alloc cs4 (.cells #[] 4)
      refine hK.out _ _ (cx_keep (And.intro cs4 trivial) be8) (fun _ => ?_)
      clear hK K
      try simp only [Act.put, List.setIfInBounds_toArray, List.set_cons_zero, List.set_cons_succ]
      have sa8 : ((w0.alloc (.cells #[] 3)).alloc (.cells #[] 4)).drew.heap.size ≤ w0.heap.size + 2 := by simp
      have sb8 : w0.heap.size + 2 ≤ ((w0.alloc (.cells #[] 3)).alloc (.cells #[] 4)).drew.heap.size := by simp
      have rq8 : ((w0.alloc (.cells #[] 3)).alloc (.cells #[] 4)).drew.ownsRow A 4 1 (.slice (some ⟨(w0.alloc (.cells #[] 3)).drew.heap.size, 0, none⟩) 0 0) 0 [] := World.ownsRow_made (w0.alloc (.cells #[] 3)).drew #[] 0 (by have := heap_lt cs4.hr; omega) (Nat.zero_le _) rfl
      have ro8 : ((w0.alloc (.cells #[] 3)).alloc (.cells #[] 4)).drew.ownsRow A 4 1 (.slice (some ⟨w0.heap.size + 1, 0, none⟩) 0 0) 0 [] := by rwa [show (w0.alloc (.cells #[] 3)).drew.heap.size = w0.heap.size + 1 by simp] at rq8
      have cs8 := cx_of (cx_keep (And.intro cs4 trivial) be8)
      have ro4_8 := row_stays ro4 (show Below (w0.alloc (.cells #[] 3)).drew.heap.size (w0.alloc (.cells #[] 3)).drew ((w0.alloc (.cells #[] 3)).alloc (.cells #[] 4)).drew from Joins.below_alloc1 _ (.cells #[] 4))
      refine wpAnyH_ready (rs := [7]) (by kernel_rfl) (by simp) ?_
      refine AllReadyH.cons (o := { dst := some 10, op := Op.call { callee := Callee.builtin Builtin.append, args := #[Operand.tmp 7, Operand.tmp 9], argTypes := #[22, 22] }, type := 22, pos := "ref.go:132", after := #[{ on := 4, ground := Ground.data }, { on := 6, ground := Ground.data }], guard := none }) rfl (fun K hK => ?_) AllReadyH.nil
      have nw7 := news_of (Vals.stays HI.out (by rw [← HA.out]; exact cs8.below))
      have sz7 := heap_lt cs8.hr
      refine step_append_lies _ rfl _ _ 22 rfl A 3 i0 (.int .i64 0) 1 8 Tryd.underlying22 HIN.out.1 HIN.out.2.1 HIN.out.2.2.1 HIN.out.2.2.2 rfl (by decide) (.slice (some ⟨w0.heap.size, 0, none⟩) 0 0) 0 [] rfl ro4_8 ⟨b, off, none⟩ n _ (vals n (iv Z)) rfl (by simp [vals_length]) nw7 (vals_one (fun _ => rfl)) (by omega) (by unfold maxLen; omega) (by omega) (by omega) _ rfl ?_
      intro g7 c7 u7 ow7 gr7 at7 lt7
      rw [Nat.zero_add, List.nil_append] at ow7
      have gg7 := own_or at7
      have be7 : Below (A + 2) _ u7 := (Below.refl _ _).grown gr7 (by omega) (by intro k hk; simp only [Value.ownBlock, Option.some.injEq] at hk; omega)
      have si7 := be7.size
      try rw [Nat.zero_add]
      refine hK.out _ _ (cx_keep (And.intro cs8 trivial) be7) (fun _ => ?_)
      clear hK K
      try simp only [Act.put, List.setIfInBounds_toArray, List.set_cons_zero, List.set_cons_succ]
      have cs7 := cx_of (cx_keep (And.intro cs8 trivial) be7)
      have ro8_7 := row_grown ro8 gr7 (by simp only [Value.ownBlock, ne_eq, Option.some.injEq]; omega)
      refine wpAnyH_ready (rs := [11]) (by kernel_rfl) (by simp) ?_
      refine AllReadyH.cons (o := { dst := some 14, op := Op.call { callee := Callee.builtin Builtin.append, args := #[Operand.tmp 11, Operand.tmp 13], argTypes := #[23, 23] }, type := 23, pos := "ref.go:132", after := #[{ on := 8, ground := Ground.data }, { on := 10, ground := Ground.data }, { on := 7, ground := Ground.chain }], guard := none }) rfl (fun K hK => ?_) AllReadyH.nil
      have nw11 := news_of (Vals.stays HB.out (by rw [← HA.out]; exact cs7.below))
      have sz11 := heap_lt cs7.hr
      refine step_append_lies _ rfl _ _ 23 rfl A 4 j0 (.bool false) 1 1 Tryd.underlying23 HJN.out.1 HJN.out.2.1 HJN.out.2.2.1 HJN.out.2.2.2 rfl (by decide) (.slice (some ⟨w0.heap.size + 1, 0, none⟩) 0 0) 0 [] rfl ro8_7 ⟨b', off', none⟩ n _ (vals n (bv B)) rfl (by simp [vals_length]) nw11 (vals_one (fun _ => rfl)) (by omega) (by unfold maxLen; omega) (by omega) (by omega) _ rfl ?_
      intro g11 c11 u11 ow11 gr11 at11 lt11
      rw [Nat.zero_add, List.nil_append] at ow11
      have gg11 := own_or at11
      have be11 : Below (A + 2) _ u11 := (Below.refl _ _).grown gr11 (by omega) (by intro k hk; simp only [Value.ownBlock, Option.some.injEq] at hk; omega)
      have si11 := be11.size
      try rw [Nat.zero_add]
      refine hK.out _ _ (cx_keep (And.intro cs7 trivial) be11) (fun _ => ?_)
      clear hK K
      try simp only [Act.put, List.setIfInBounds_toArray, List.set_cons_zero, List.set_cons_succ]
      have cs11 := cx_of (cx_keep (And.intro cs7 trivial) be11)
      have ow7_11 := row_grown ow7 gr11 (by simp only [Value.ownBlock, ne_eq, Option.some.injEq]; omega)
      refine wpAnyH_take (i := 12) (oi := { dst := some 15, op := Op.build 25 #[(0, Operand.tmp 4), (1, Operand.tmp 6), (2, Operand.tmp 10), (3, Operand.tmp 14)], type := 25, pos := "ref.go:132", after := #[{ on := 1, ground := Ground.data }, { on := 3, ground := Ground.data }, { on := 7, ground := Ground.data }, { on := 11, ground := Ground.data }], guard := none }) (v := ?_) rfl (by kernel_rfl) (by kernel_rfl) (by kernel_rfl) (fun _ _ _ h => h) (Or.inl ⟨by rfl, ?_⟩) (by assumption) ?_
      rotate_left
      · intro w hSw; (try dsimp only at hSw); go_simp; try (with_reducible rfl)
      try simp only [Act.put, List.setIfInBounds_toArray, List.set_cons_zero, List.set_cons_succ]
      refine wpAnyH_ready (rs := [13]) (by kernel_rfl) (by simp) ?_
      refine AllReadyH.cons (o := { dst := none, op := Op.store 25 (Operand.tmp 2) (Operand.tmp 15), type := 0, pos := "ref.go:132", after := #[{ on := 12, ground := Ground.data }, { on := 11, ground := Ground.chain }, { on := 0, ground := Ground.phase }, { on := 1, ground := Ground.phase }, { on := 2, ground := Ground.phase }, { on := 3, ground := Ground.phase }, { on := 4, ground := Ground.phase }, { on := 5, ground := Ground.phase }, { on := 6, ground := Ground.phase }, { on := 7, ground := Ground.phase }, { on := 8, ground := Ground.phase }, { on := 9, ground := Ground.phase }, { on := 10, ground := Ground.phase }, { on := 11, ground := Ground.phase }, { on := 12, ground := Ground.phase }], guard := none }) rfl (fun K hK => ?_) AllReadyH.nil
      obtain ⟨x0, x1, x2, x3, hres⟩ := cs11.hres
      have r0 := cell_of_row u11 (A + 1) 0 _ _ _ hres
      have f0 := frozen_of_row u11 (A + 1) 0 _ _ hres
      have r1 := cell_of_row u11 (A + 1) 1 _ _ _ hres
      have f1 := frozen_of_row u11 (A + 1) 1 _ _ hres
      have r2 := cell_of_row u11 (A + 1) 2 _ _ _ hres
      have f2 := frozen_of_row u11 (A + 1) 2 _ _ hres
      have r3 := cell_of_row u11 (A + 1) 3 _ _ _ hres
      have f3 := frozen_of_row u11 (A + 1) 3 _ _ hres
      simp only [List.getElem?_toArray, List.getElem?_cons_zero, List.getElem?_cons_succ] at r0 r1 r2 r3
      have hne : g7 ≠ g11 := by omega
      have h7 := (ow7_11.lt g7 rfl).1
      have hl := heap_lt hres
      have FI := hid (Fin4.mk (W := W) (H := H) hres cs11.below ow7_11 ow11 (by omega) (by omega))
      have FC := hid (cs11.hb)
      go_simp
      refine hK.out _ _ (cx_set (And.intro cs11 trivial) _ _ _ _) (fun _ => ?_)
      clear hK K
      try simp only [Act.put, List.setIfInBounds_toArray, List.set_cons_zero, List.set_cons_succ]
      refine wpAnyH_done (by kernel_rfl) ?_ _
      clear r0 r1 r2 r3 f0 f1 f2 f3
      go_wp2_with fail
      have k3 := set4 FI.out.res (.int .i64 W) (.int .i64 H) (.slice (some ⟨g7, 0, none⟩) n c7) (.slice (some ⟨g11, 0, none⟩) n c11)
      have k4 := set4_below (g := A + 1) FI.out.below (Nat.le_succ _) (.int .i64 W) (.int .i64 H) (.slice (some ⟨g7, 0, none⟩) n c7) (.slice (some ⟨g11, 0, none⟩) n c11)
      have k5 := set4_row (g := A + 1) FI.out.row1 (by simpa [Value.ownBlock] using FI.out.ng) (.int .i64 W) (.int .i64 H) (.slice (some ⟨g7, 0, none⟩) n c7) (.slice (some ⟨g11, 0, none⟩) n c11)
      have k6 := set4_row (g := A + 1) FI.out.row2 (by simpa [Value.ownBlock] using FI.out.nk) (.int .i64 W) (.int .i64 H) (.slice (some ⟨g7, 0, none⟩) n c7) (.slice (some ⟨g11, 0, none⟩) n c11)
      generalize World.setCell _ _ _ = w5 at k3 k4 k5 k6 ⊢
      have q0 := cell_of_row w5 (A + 1) 0 _ _ _ k3
      have q1 := cell_of_row w5 (A + 1) 1 _ _ _ k3
      have q2 := cell_of_row w5 (A + 1) 2 _ _ _ k3
      have q3 := cell_of_row w5 (A + 1) 3 _ _ _ k3
      simp only [List.getElem?_toArray, List.getElem?_cons_zero, List.getElem?_cons_succ] at q0 q1 q2 q3
      exact bodyPost_ret (v := rv W H (.slice (some ⟨g7, 0, none⟩) n c7) (.slice (some ⟨g11, 0, none⟩) n c11)) (by simp [results, Tryd.results49, go_sem, q0, q1, q2, q3]) rfl ⟨g7, c7, g11, c11, rfl, by rw [← HA.out]; exact k5, by rw [← HA.out]; exact k6, hne, by rw [← HA.out]; exact k4⟩
  · skip
    go_simp
    have be8 : Below (A + 2) w0.drew (w0.alloc (.cells #[] 4)).drew := cx_alloc cs0 (.cells #[] 4)
    refine hK.out _ _ (cx_keep (And.intro cs0 trivial) be8) (fun _ => ?_)
    clear hK K
    try simp only [Act.put, List.setIfInBounds_toArray, List.set_cons_zero, List.set_cons_succ]
    have sa8 : (w0.alloc (.cells #[] 4)).drew.heap.size ≤ w0.heap.size + 1 := by simp
    have sb8 : w0.heap.size + 1 ≤ (w0.alloc (.cells #[] 4)).drew.heap.size := by simp
    have rq8 : (w0.alloc (.cells #[] 4)).drew.ownsRow A 4 1 (.slice (some ⟨w0.drew.heap.size, 0, none⟩) 0 0) 0 [] := World.ownsRow_made w0.drew #[] 0 (by have := heap_lt cs0.hr; omega) (Nat.zero_le _) rfl
    have ro8 : (w0.alloc (.cells #[] 4)).drew.ownsRow A 4 1 (.slice (some ⟨w0.heap.size, 0, none⟩) 0 0) 0 [] := by rwa [show w0.drew.heap.size = w0.heap.size by simp] at rq8
    have cs8 := cx_of (cx_keep (And.intro cs0 trivial) be8)
    refine wpAnyH_ready (rs := [4]) (by kernel_rfl) (by simp) ?_
    refine AllReadyH.cons (o := { dst := some 7, op := Op.buildSlice 22 0 #[], type := 22, pos := "ref.go:132", after := #[], guard := none }) rfl (fun K hK => ?_) AllReadyH.nil
    go_simp
    have be4 : Below (A + 2) (w0.alloc (.cells #[] 4)).drew ((w0.alloc (.cells #[] 4)).alloc (.cells #[] 3)).drew := cx_alloc cs8 (.cells #[] 3)
    refine hK.out _ _ (cx_keep (And.intro cs8 trivial) be4) (fun _ => ?_)
    clear hK K
    try simp only [Act.put, List.setIfInBounds_toArray, List.set_cons_zero, List.set_cons_succ]
    have sa4 : ((w0.alloc (.cells #[] 4)).alloc (.cells #[] 3)).drew.heap.size ≤ w0.heap.size + 2 := by simp
    have sb4 : w0.heap.size + 2 ≤ ((w0.alloc (.cells #[] 4)).alloc (.cells #[] 3)).drew.heap.size := by simp
    have rq4 : ((w0.alloc (.cells #[] 4)).alloc (.cells #[] 3)).drew.ownsRow A 3 1 (.slice (some ⟨(w0.alloc (.cells #[] 4)).drew.heap.size, 0, none⟩) 0 0) 0 [] := World.ownsRow_made (w0.alloc (.cells #[] 4)).drew #[] 0 (by have := heap_lt cs8.hr; omega) (Nat.zero_le _) rfl
    have ro4 : ((w0.alloc (.cells #[] 4)).alloc (.cells #[] 3)).drew.ownsRow A 3 1 (.slice (some ⟨w0.heap.size + 1, 0, none⟩) 0 0) 0 [] := by rwa [show (w0.alloc (.cells #[] 4)).drew.heap.size = w0.heap.size + 1 by simp] at rq4
    have cs4 := cx_of (cx_keep (And.intro cs8 trivial) be4)
    have ro8_4 := row_stays ro8 (show Below (w0.alloc (.cells #[] 4)).drew.heap.size (w0.alloc (.cells #[] 4)).drew ((w0.alloc (.cells #[] 4)).alloc (.cells #[] 3)).drew from Joins.below_alloc1 _ (.cells #[] 3))
    refine wpAnyH_ready (rs := [7]) (by kernel_rfl) (by simp) ?_
    refine AllReadyH.cons (o := { dst := some 10, op := Op.call { callee := Callee.builtin Builtin.append, args := #[Operand.tmp 7, Operand.tmp 9], argTypes := #[22, 22] }, type := 22, pos := "ref.go:132", after := #[{ on := 4, ground := Ground.data }, { on := 6, ground := Ground.data }], guard := none }) rfl (fun K hK => ?_) AllReadyH.nil
    have nw7 := news_of (Vals.stays HI.out (by rw [← HA.out]; exact cs4.below))
    have sz7 := heap_lt cs4.hr
    refine step_append_lies _ rfl _ _ 22 rfl A 3 i0 (.int .i64 0) 1 8 Tryd.underlying22 HIN.out.1 HIN.out.2.1 HIN.out.2.2.1 HIN.out.2.2.2 rfl (by decide) (.slice (some ⟨w0.heap.size + 1, 0, none⟩) 0 0) 0 [] rfl ro4 ⟨b, off, none⟩ n _ (vals n (iv Z)) rfl (by simp [vals_length]) nw7 (vals_one (fun _ => rfl)) (by omega) (by unfold maxLen; omega) (by omega) (by omega) _ rfl ?_
    intro g7 c7 u7 ow7 gr7 at7 lt7
    rw [Nat.zero_add, List.nil_append] at ow7
    have gg7 := own_or at7
    have be7 : Below (A + 2) _ u7 := (Below.refl _ _).grown gr7 (by omega) (by intro k hk; simp only [Value.ownBlock, Option.some.injEq] at hk; omega)
    have si7 := be7.size
    try rw [Nat.zero_add]
    refine hK.out _ _ (cx_keep (And.intro cs4 trivial) be7) (fun _ => ?_)
    clear hK K
    try simp only [Act.put, List.setIfInBounds_toArray, List.set_cons_zero, List.set_cons_succ]
    have cs7 := cx_of (cx_keep (And.intro cs4 trivial) be7)
    have ro8_4_7 := row_grown ro8_4 gr7 (by simp only [Value.ownBlock, ne_eq, Option.some.injEq]; omega)
    refine wpAnyH_ready (rs := [11]) (by kernel_rfl) (by simp) ?_
    refine AllReadyH.cons (o := { dst := some 14, op := Op.call { callee := Callee.builtin Builtin.append, args := #[Operand.tmp 11, Operand.tmp 13], argTypes := #[23, 23] }, type := 23, pos := "ref.go:132", after := #[{ on := 8, ground := Ground.data }, { on := 10, ground := Ground.data }, { on := 7, ground := Ground.chain }], guard := none }) rfl (fun K hK => ?_) AllReadyH.nil
    have nw11 := news_of (Vals.stays HB.out (by rw [← HA.out]; exact cs7.below))
    have sz11 := heap_lt cs7.hr
    refine step_append_lies _ rfl _ _ 23 rfl A 4 j0 (.bool false) 1 1 Tryd.underlying23 HJN.out.1 HJN.out.2.1 HJN.out.2.2.1 HJN.out.2.2.2 rfl (by decide) (.slice (some ⟨w0.heap.size, 0, none⟩) 0 0) 0 [] rfl ro8_4_7 ⟨b', off', none⟩ n _ (vals n (bv B)) rfl (by simp [vals_length]) nw11 (vals_one (fun _ => rfl)) (by omega) (by unfold maxLen; omega) (by omega) (by omega) _ rfl ?_
    intro g11 c11 u11 ow11 gr11 at11 lt11
    rw [Nat.zero_add, List.nil_append] at ow11
    have gg11 := own_or at11
    have be11 : Below (A + 2) _ u11 := (Below.refl _ _).grown gr11 (by omega) (by intro k hk; simp only [Value.ownBlock, Option.some.injEq] at hk; omega)
    have si11 := be11.size
    try rw [Nat.zero_add]
    refine hK.out _ _ (cx_keep (And.intro cs7 trivial) be11) (fun _ => ?_)
    clear hK K
    try simp only [Act.put, List.setIfInBounds_toArray, List.set_cons_zero, List.set_cons_succ]
    have cs11 := cx_of (cx_keep (And.intro cs7 trivial) be11)
    have ow7_11 := row_grown ow7 gr11 (by simp only [Value.ownBlock, ne_eq, Option.some.injEq]; omega)
    refine wpAnyH_take (i := 12) (oi := { dst := some 15, op := Op.build 25 #[(0, Operand.tmp 4), (1, Operand.tmp 6), (2, Operand.tmp 10), (3, Operand.tmp 14)], type := 25, pos := "ref.go:132", after := #[{ on := 1, ground := Ground.data }, { on := 3, ground := Ground.data }, { on := 7, ground := Ground.data }, { on := 11, ground := Ground.data }], guard := none }) (v := ?_) rfl (by kernel_rfl) (by kernel_rfl) (by kernel_rfl) (fun _ _ _ h => h) (Or.inl ⟨by rfl, ?_⟩) (by assumption) ?_
    rotate_left
    · intro w hSw; (try dsimp only at hSw); go_simp; try (with_reducible rfl)
    try simp only [Act.put, List.setIfInBounds_toArray, List.set_cons_zero, List.set_cons_succ]
    refine wpAnyH_ready (rs := [13]) (by kernel_rfl) (by simp) ?_
    refine AllReadyH.cons (o := { dst := none, op := Op.store 25 (Operand.tmp 2) (Operand.tmp 15), type := 0, pos := "ref.go:132", after := #[{ on := 12, ground := Ground.data }, { on := 11, ground := Ground.chain }, { on := 0, ground := Ground.phase }, { on := 1, ground := Ground.phase }, { on := 2, ground := Ground.phase }, { on := 3, ground := Ground.phase }, { on := 4, ground := Ground.phase }, { on := 5, ground := Ground.phase }, { on := 6, ground := Ground.phase }, { on := 7, ground := Ground.phase }, { on := 8, ground := Ground.phase }, { on := 9, ground := Ground.phase }, { on := 10, ground := Ground.phase }, { on := 11, ground := Ground.phase }, { on := 12, ground := Ground.phase }], guard := none }) rfl (fun K hK => ?_) AllReadyH.nil
    obtain ⟨x0, x1, x2, x3, hres⟩ := cs11.hres
    have r0 := cell_of_row u11 (A + 1) 0 _ _ _ hres
    have f0 := frozen_of_row u11 (A + 1) 0 _ _ hres
    have r1 := cell_of_row u11 (A + 1) 1 _ _ _ hres
    have f1 := frozen_of_row u11 (A + 1) 1 _ _ hres
    have r2 := cell_of_row u11 (A + 1) 2 _ _ _ hres
    have f2 := frozen_of_row u11 (A + 1) 2 _ _ hres
    have r3 := cell_of_row u11 (A + 1) 3 _ _ _ hres
    have f3 := frozen_of_row u11 (A + 1) 3 _ _ hres
    simp only [List.getElem?_toArray, List.getElem?_cons_zero, List.getElem?_cons_succ] at r0 r1 r2 r3
    have hne : g7 ≠ g11 := by omega
    have h7 := (ow7_11.lt g7 rfl).1
    have hl := heap_lt hres
    have FI := hid (Fin4.mk (W := W) (H := H) hres cs11.below ow7_11 ow11 (by omega) (by omega))
    have FC := hid (cs11.hb)
    go_simp
    refine hK.out _ _ (cx_set (And.intro cs11 trivial) _ _ _ _) (fun _ => ?_)
    clear hK K
    try simp only [Act.put, List.setIfInBounds_toArray, List.set_cons_zero, List.set_cons_succ]
    refine wpAnyH_done (by kernel_rfl) ?_ _
    clear r0 r1 r2 r3 f0 f1 f2 f3
    go_wp2_with fail
    have k3 := set4 FI.out.res (.int .i64 W) (.int .i64 H) (.slice (some ⟨g7, 0, none⟩) n c7) (.slice (some ⟨g11, 0, none⟩) n c11)
    have k4 := set4_below (g := A + 1) FI.out.below (Nat.le_succ _) (.int .i64 W) (.int .i64 H) (.slice (some ⟨g7, 0, none⟩) n c7) (.slice (some ⟨g11, 0, none⟩) n c11)
    have k5 := set4_row (g := A + 1) FI.out.row1 (by simpa [Value.ownBlock] using FI.out.ng) (.int .i64 W) (.int .i64 H) (.slice (some ⟨g7, 0, none⟩) n c7) (.slice (some ⟨g11, 0, none⟩) n c11)
    have k6 := set4_row (g := A + 1) FI.out.row2 (by simpa [Value.ownBlock] using FI.out.nk) (.int .i64 W) (.int .i64 H) (.slice (some ⟨g7, 0, none⟩) n c7) (.slice (some ⟨g11, 0, none⟩) n c11)
    generalize World.setCell _ _ _ = w5 at k3 k4 k5 k6 ⊢
    have q0 := cell_of_row w5 (A + 1) 0 _ _ _ k3
    have q1 := cell_of_row w5 (A + 1) 1 _ _ _ k3
    have q2 := cell_of_row w5 (A + 1) 2 _ _ _ k3
    have q3 := cell_of_row w5 (A + 1) 3 _ _ _ k3
    simp only [List.getElem?_toArray, List.getElem?_cons_zero, List.getElem?_cons_succ] at q0 q1 q2 q3
    exact bodyPost_ret (v := rv W H (.slice (some ⟨g7, 0, none⟩) n c7) (.slice (some ⟨g11, 0, none⟩) n c11)) (by simp [results, Tryd.results49, go_sem, q0, q1, q2, q3]) rfl ⟨g7, c7, g11, c11, rfl, by rw [← HA.out]; exact k5, by rw [← HA.out]; exact k6, hne, by rw [← HA.out]; exact k4⟩
end Go.Proofs.YtlpmahdplilbiaaDoor
