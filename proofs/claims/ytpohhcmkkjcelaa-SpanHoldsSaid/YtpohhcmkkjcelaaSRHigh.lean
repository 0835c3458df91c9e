/-
  The walks of corners, Base and slope of the reference.
-/
import Derived.Test.YtpohhcmkkjcelaaSRef
import Derived.Deep.DeepCutAuto
namespace Go.Proofs.Ytpohhcmkkjcelaa
open Go.RowKit

theorem kq0 {wX w2 : World} {k : Nat} {o : Obj} (hb : Below wX.heap.size wX w2) (f : wX.heap[k]? = some o) : w2.heap[k]? = some o := (hb.block k (heap_lt f)).trans f
/-- What a box of four holds, for the walk; it is filled. -/
theorem bx_facts4 {w : World} {k : Nat} {a b c d : Value} {t : TypeId} (h : w.heap[k]? = some (.cells #[a, b, c, d] t (0, 0))) :
    w.cell? ⟨k, 0, none⟩ = some a ∧ w.cell? ⟨k, 1, none⟩ = some b ∧ w.cell? ⟨k, 2, none⟩ = some c ∧ w.cell? ⟨k, 3, none⟩ = some d ∧ w.frozen? ⟨k, 0, none⟩ = false ∧ w.frozen? ⟨k, 1, none⟩ = false ∧ w.frozen? ⟨k, 2, none⟩ = false ∧ w.frozen? ⟨k, 3, none⟩ = false ∧ k < w.heap.size :=
  ⟨cell_of_row w k 0 _ _ _ h, cell_of_row w k 1 _ _ _ h, cell_of_row w k 2 _ _ _ h, cell_of_row w k 3 _ _ _ h, frozen_of_row w k 0 _ _ h, frozen_of_row w k 1 _ _ h, frozen_of_row w k 2 _ _ h, frozen_of_row w k 3 _ _ h, heap_lt h⟩
theorem bx_put4 {w : World} {p : Nat} {x y z v : Value} {t : TypeId} (h : w.heap[p]? = some (.cells #[x, y, z, v] t (0, 0))) (a b c d : Value) :
    ∃ w', w' = (((w.setCell ⟨p, 0, none⟩ a).setCell ⟨p, 1, none⟩ b).setCell ⟨p, 2, none⟩ c).setCell ⟨p, 3, none⟩ d ∧ w'.heap[p]? = some (.cells #[a, b, c, d] t (0, 0)) ∧ (∀ j, j ≠ p → w'.heap[j]? = w.heap[j]?) ∧ w'.heap.size = w.heap.size ∧ ∀ B, B ≤ p → Below B w w' :=
  ⟨_, rfl, set4 h a b c d, fun j hj => (Below.heap_setCell _ _ _ j hj).trans ((Below.heap_setCell _ _ _ j hj).trans ((Below.heap_setCell _ _ _ j hj).trans (Below.heap_setCell _ _ _ j hj))), by simp [World.setCell], fun B hB => set4_below (Below.refl _ w) hB a b c d⟩
theorem LB.low {W H : Int} {ao : Option Addr} {n cap : Nat} {Z : Nat → Int} {w wr w' : World} (hm : LB W H ao n cap Z w wr) (hI : Ints w ao n Z) (hb : Below (w.heap.size + 1) wr w') : LB W H ao n cap Z w w' := by
  have k3 := hm.below.trans (hb.mono (by omega))
  exact ⟨k3, Nat.lt_of_lt_of_le hm.size hb.size, (hb.cell (p := ⟨w.heap.size, 0, none⟩) (by show w.heap.size < _; omega)).trans hm.c0, (hb.cell (p := ⟨w.heap.size, 1, none⟩) (by show w.heap.size < _; omega)).trans hm.c1, (hb.cell (p := ⟨w.heap.size, 2, none⟩) (by show w.heap.size < _; omega)).trans hm.c2, hI.stays k3⟩
theorem lb_all {W H : Int} {ao : Option Addr} {n cap : Nat} {Z : Nat → Int} {w wr : World} {P : Prop} (h : LB W H ao n cap Z w wr ∧ P) : LB W H ao n cap Z w wr ∧ wr.cell? ⟨w.heap.size, 0, none⟩ = some (.int .i64 W) ∧ wr.cell? ⟨w.heap.size, 1, none⟩ = some (.int .i64 H) ∧ wr.cell? ⟨w.heap.size, 2, none⟩ = some (.slice ao n cap) := ⟨h.1, h.1.c0, h.1.c1, h.1.c2⟩
theorem lb_keep2 {W H : Int} {ao : Option Addr} {n cap : Nat} {Z : Nat → Int} {w wr w' : World} {P : Prop} (h : LB W H ao n cap Z w wr ∧ P) (hb : Below wr.heap.size wr w') : LB W H ao n cap Z w w' ∧ w'.cell? ⟨w.heap.size, 0, none⟩ = some (.int .i64 W) ∧ w'.cell? ⟨w.heap.size, 1, none⟩ = some (.int .i64 H) ∧ w'.cell? ⟨w.heap.size, 2, none⟩ = some (.slice ao n cap) := lb_all (And.intro (h.1.stays hb) trivial)
theorem lb_put2 {W H : Int} {ao : Option Addr} {n cap : Nat} {Z : Nat → Int} {w wr w' : World} {P : Prop} (hI : Ints w ao n Z) (h : LB W H ao n cap Z w wr ∧ P) (hb : Below (w.heap.size + 1) wr w') : LB W H ao n cap Z w w' ∧ w'.cell? ⟨w.heap.size, 0, none⟩ = some (.int .i64 W) ∧ w'.cell? ⟨w.heap.size, 1, none⟩ = some (.int .i64 H) ∧ w'.cell? ⟨w.heap.size, 2, none⟩ = some (.slice ao n cap) := lb_all (And.intro (h.1.low hI hb) trivial)
theorem lb_ints2 {W H : Int} {ao : Option Addr} {n cap : Nat} {Z : Nat → Int} {w wr : World} {P : Prop} (h : LB W H ao n cap Z w wr ∧ P) : Ints wr ao n Z := h.1.ints
section
variable {W H : Int} {ao : Option Addr} {n cap : Nat} {Z : Nat → Int} {w wr w' : World} {b off x V : Nat} {z0 z1 z2 z3 : Int} {P : Prop}
theorem cb_all (hz : b < w.heap.size) (D : w.cell? ⟨b, off + x, none⟩ = some (.int .i64 z0) ∧ w.cell? ⟨b, off + (x + 1), none⟩ = some (.int .i64 z1) ∧ w.cell? ⟨b, off + (x + V + 2), none⟩ = some (.int .i64 z2) ∧ w.cell? ⟨b, off + (x + V + 1), none⟩ = some (.int .i64 z3)) (h : LB W H ao n cap Z w wr ∧ P) : LB W H ao n cap Z w wr ∧ wr.cell? ⟨w.heap.size, 0, none⟩ = some (.int .i64 W) ∧ wr.cell? ⟨w.heap.size, 1, none⟩ = some (.int .i64 H) ∧ wr.cell? ⟨w.heap.size, 2, none⟩ = some (.slice ao n cap) ∧ wr.cell? ⟨b, off + x, none⟩ = some (.int .i64 z0) ∧ wr.cell? ⟨b, off + (x + 1), none⟩ = some (.int .i64 z1) ∧ wr.cell? ⟨b, off + (x + V + 2), none⟩ = some (.int .i64 z2) ∧ wr.cell? ⟨b, off + (x + V + 1), none⟩ = some (.int .i64 z3) :=
  have q : ∀ (i : Nat) (v : Value), w.cell? ⟨b, i, none⟩ = some v → wr.cell? ⟨b, i, none⟩ = some v := fun i _ e => (h.1.below.cell (p := ⟨b, i, none⟩) hz).trans e
  ⟨h.1, h.1.c0, h.1.c1, h.1.c2, q _ _ D.1, q _ _ D.2.1, q _ _ D.2.2.1, q _ _ D.2.2.2⟩
theorem cb_keep (hz : b < w.heap.size) (D : w.cell? ⟨b, off + x, none⟩ = some (.int .i64 z0) ∧ w.cell? ⟨b, off + (x + 1), none⟩ = some (.int .i64 z1) ∧ w.cell? ⟨b, off + (x + V + 2), none⟩ = some (.int .i64 z2) ∧ w.cell? ⟨b, off + (x + V + 1), none⟩ = some (.int .i64 z3)) (h : LB W H ao n cap Z w wr ∧ P) (hb : Below wr.heap.size wr w') : LB W H ao n cap Z w w' ∧ w'.cell? ⟨w.heap.size, 0, none⟩ = some (.int .i64 W) ∧ w'.cell? ⟨w.heap.size, 1, none⟩ = some (.int .i64 H) ∧ w'.cell? ⟨w.heap.size, 2, none⟩ = some (.slice ao n cap) ∧ w'.cell? ⟨b, off + x, none⟩ = some (.int .i64 z0) ∧ w'.cell? ⟨b, off + (x + 1), none⟩ = some (.int .i64 z1) ∧ w'.cell? ⟨b, off + (x + V + 2), none⟩ = some (.int .i64 z2) ∧ w'.cell? ⟨b, off + (x + V + 1), none⟩ = some (.int .i64 z3) := cb_all hz D (And.intro (h.1.stays hb) trivial)
theorem cb_put (hz : b < w.heap.size) (D : w.cell? ⟨b, off + x, none⟩ = some (.int .i64 z0) ∧ w.cell? ⟨b, off + (x + 1), none⟩ = some (.int .i64 z1) ∧ w.cell? ⟨b, off + (x + V + 2), none⟩ = some (.int .i64 z2) ∧ w.cell? ⟨b, off + (x + V + 1), none⟩ = some (.int .i64 z3)) (hI : Ints w ao n Z) (h : LB W H ao n cap Z w wr ∧ P) (hb : Below (w.heap.size + 1) wr w') : LB W H ao n cap Z w w' ∧ w'.cell? ⟨w.heap.size, 0, none⟩ = some (.int .i64 W) ∧ w'.cell? ⟨w.heap.size, 1, none⟩ = some (.int .i64 H) ∧ w'.cell? ⟨w.heap.size, 2, none⟩ = some (.slice ao n cap) ∧ w'.cell? ⟨b, off + x, none⟩ = some (.int .i64 z0) ∧ w'.cell? ⟨b, off + (x + 1), none⟩ = some (.int .i64 z1) ∧ w'.cell? ⟨b, off + (x + V + 2), none⟩ = some (.int .i64 z2) ∧ w'.cell? ⟨b, off + (x + V + 1), none⟩ = some (.int .i64 z3) := cb_all hz D (And.intro (h.1.low hI hb) trivial)
end

set_option maxRecDepth 20000 in
set_option maxHeartbeats 6400000 in
theorem corners_any (W H : Nat) (ao : Option Addr) (n cap : Nat) (Z : Nat → Int) (hg : Good W H n Z) (u : Nat) (hu : u < W * H) (w : World) (hI : Ints w ao n Z) :
    Calls Try.prog 61 #[lv W H (.slice ao n cap), .int .i64 u] w fun r w' => r = .returned (fourH W Z u) ∧ Below w.heap.size w w' := by
  obtain ⟨hW1, hW2, hH1, hH2⟩ := hg.side
  have hlb := hg.shaped.bound
  have hms := mul_small hW2 hH2
  have hp : nw W u + W + 2 < n := by rw [hg.len]; exact nw_lt hu
  obtain ⟨b, off, rfl, hbz, hcell⟩ := hI.one (by omega)
  have d0 := hcell (nw W u) (by omega)
  have d1 := hcell (nw W u + 1) (by omega)
  have d2 := hcell (nw W u + W + 2) (by omega)
  have d3 := hcell (nw W u + W + 1) (by omega)
  unfold fourH
  obtain ⟨z0, e0⟩ : ∃ z, z = Z (nw W u) := ⟨_, rfl⟩
  obtain ⟨z1, e1⟩ : ∃ z, z = Z (nw W u + 1) := ⟨_, rfl⟩
  obtain ⟨z2, e2⟩ : ∃ z, z = Z (nw W u + W + 2) := ⟨_, rfl⟩
  obtain ⟨z3, e3⟩ : ∃ z, z = Z (nw W u + W + 1) := ⟨_, rfl⟩
  rw [← e0] at d0 ⊢
  rw [← e1] at d1 ⊢
  rw [← e2] at d2 ⊢
  rw [← e3] at d3 ⊢
  obtain ⟨q, hq⟩ : ∃ q, q = u % W := ⟨_, rfl⟩
  obtain ⟨v, hv⟩ : ∃ v, v = u / W := ⟨_, rfl⟩
  obtain ⟨m, hm⟩ : ∃ m, m = v * (W + 1) := ⟨_, rfl⟩
  obtain ⟨x, hx⟩ : ∃ x, x = nw W u := ⟨_, rfl⟩
  have hxm : x = m + q := by rw [hx, hm, hv, hq]; rfl
  rw [← hx] at hp d0 d1 d2 d3
  have f1 : (u : Int) / (W : Int) = (v : Int) := by rw [hv]; simp
  have f2 : (u : Int) % (W : Int) = (q : Int) := by rw [hq]; simp
  have f3 : (v : Int) * ((W : Int) + 1) = (m : Int) := by rw [hm]; simp
  have f4 : (m : Int) + (q : Int) = (x : Int) := by omega
  have hq2 : q ≤ 1024 := by rw [hq]; exact Nat.le_trans (Nat.mod_le _ _) (by omega)
  have hv2 : v ≤ 1024 := by rw [hv]; exact Nat.le_trans (Nat.div_le_self _ _) (by omega)
  have w1 : IntKind.i64.wrap (v : Int) = (v : Int) := by rw [IntKind.wrap_i64]; omega
  have w2 : IntKind.i64.wrap (q : Int) = (q : Int) := by rw [IntKind.wrap_i64]; omega
  have w3 : IntKind.i64.wrap (m : Int) = (m : Int) := by rw [IntKind.wrap_i64]; omega
  have w4 : IntKind.i64.wrap (x : Int) = (x : Int) := by rw [IntKind.wrap_i64]; omega
  have w5 : IntKind.i64.wrap ((x : Int) + 1) = (x : Int) + 1 := by rw [IntKind.wrap_i64]; omega
  have w6 : IntKind.i64.wrap ((x : Int) + (W : Int)) = (x : Int) + (W : Int) := by rw [IntKind.wrap_i64]; omega
  have w7 : IntKind.i64.wrap ((x : Int) + (W : Int) + 2) = (x : Int) + (W : Int) + 2 := by rw [IntKind.wrap_i64]; omega
  have w8 : IntKind.i64.wrap ((x : Int) + (W : Int) + 1) = (x : Int) + (W : Int) + 1 := by rw [IntKind.wrap_i64]; omega
  have w9 : IntKind.i64.wrap ((W : Int) + 1) = (W : Int) + 1 := by rw [IntKind.wrap_i64]; omega
  have b1 : (0 : Int) ≤ (x : Int) := by omega
  have b2 : (x : Int) < (n : Int) := by omega
  have b3 : (0 : Int) ≤ (x : Int) + 1 := by omega
  have b4 : (x : Int) + 1 < (n : Int) := by omega
  have b5 : (0 : Int) ≤ (x : Int) + (W : Int) + 2 := by omega
  have b6 : (x : Int) + (W : Int) + 2 < (n : Int) := by omega
  have b7 : (0 : Int) ≤ (x : Int) + (W : Int) + 1 := by omega
  have b8 : (x : Int) + (W : Int) + 1 < (n : Int) := by omega
  have t1 : ((x : Int) + 1).toNat = x + 1 := by omega
  have t2 : ((x : Int) + (W : Int) + 2).toNat = x + W + 2 := by omega
  have t3 : ((x : Int) + (W : Int) + 1).toNat = x + W + 1 := by omega
  have D := hid (And.intro d0 (And.intro d1 (And.intro d2 d3)))
  have HI := hid hI
  have HL := hid (lb_start (W := W) (H := H) (cap := cap) hI)
  clear d0 d1 d2 d3 e0 e1 e2 e3 hcell hI hg hq hv hm hx hxm hu
  go_enter Try.func61, Try.ntmps61
  go_upto_region 1 with fail
  have HL2 := hid (HL.out.stays (Joins.below_alloc1 _ (.cells #[.int .i64 0, .int .i64 0, .int .i64 0, .int .i64 0] 75)))
  have FR : ((w.alloc (.cells #[.int .i64 W, .int .i64 H, .slice (some ⟨b, off, none⟩) n cap] 24)).alloc (.cells #[.int .i64 0, .int .i64 0, .int .i64 0, .int .i64 0] 75)).heap[w.heap.size + 1]? = some (.cells #[.int .i64 0, .int .i64 0, .int .i64 0, .int .i64 0] 75 (0, 0)) := by
    show ((w.heap.push _).push _)[_]? = _
    rw [Array.getElem?_push, if_pos (by simp)]
  generalize World.alloc (World.alloc w _) _ = wm at HL2 FR ⊢
  have c0 := HL2.out.c0
  have c2 := HL2.out.c2
  go_quiet (fail)
  go_upto_region 3 with fail
  have HL3 := hid (HL2.out.stays (Joins.below_draws _ wm nq))
  have FR3 : (wm.drewN nq).heap[_]? = some _ := FR
  clear c0 c2 HL2 FR HL
  generalize World.drewN wm nq = w3 at HL3 FR3 ⊢
  have hz3 : w.heap.size + 1 ≤ w3.heap.size := HL3.out.size
  have hloR : w.heap.size + 1 ≤ w.heap.size + 1 := Nat.le_refl _
  refine wp_region_held_drew (S := (fun wr => LB W H (some ⟨b, off, none⟩) n cap Z w wr ∧ wr.cell? ⟨w.heap.size, 0, none⟩ = some (.int .i64 W) ∧ wr.cell? ⟨w.heap.size, 1, none⟩ = some (.int .i64 H) ∧ wr.cell? ⟨w.heap.size, 2, none⟩ = some (.slice (some ⟨b, off, none⟩) n cap) ∧ wr.cell? ⟨b, off + x, none⟩ = some (.int .i64 z0) ∧ wr.cell? ⟨b, off + (x + 1), none⟩ = some (.int .i64 z1) ∧ wr.cell? ⟨b, off + (x + W + 2), none⟩ = some (.int .i64 z2) ∧ wr.cell? ⟨b, off + (x + W + 1), none⟩ = some (.int .i64 z3))) (by kernel_rfl) (cb_keep hbz D.out (And.intro HL3.out trivial) ((Below.refl _ _).drew)) (fun hHeld => ?_)
  have FR3' : (w3.drew).heap[_]? = some _ := FR3
  have hlo0 : w.heap.size + 1 ≤ (w3.drew).heap.size := hz3
  generalize w3.drew = wx0 at hHeld hlo0 FR3' ⊢
  refine wpAnyH_take (i := 0) (oi := { dst := some 23, op := Op.fieldAddr 24 (Operand.tmp 2) 2, type := 0, pos := "ref.go:13", after := #[], guard := none }) (v := ?_) rfl (by kernel_rfl) (by kernel_rfl) (by kernel_rfl) (fun _ _ _ h => h) (Or.inl ⟨by rfl, ?_⟩) (by assumption) ?_
  rotate_left
  · intro w hSw; (try dsimp only at hSw); go_simp; try (with_reducible rfl)
  try simp only [Act.put, List.setIfInBounds_toArray, List.set_cons_zero, List.set_cons_succ]
  refine wpAnyH_take (i := 1) (oi := { dst := some 24, op := Op.load 22 (Operand.tmp 23), type := 22, pos := "ref.go:13", after := #[{ on := 0, ground := Ground.data }], guard := none }) (v := ?_) rfl (by kernel_rfl) (by kernel_rfl) (by kernel_rfl) (fun _ _ _ h => h) (Or.inl ⟨by rfl, ?_⟩) (by assumption) ?_
  rotate_left
  · intro w hSw; (try dsimp only at hSw); go_simp; try (with_reducible rfl)
  try simp only [Act.put, List.setIfInBounds_toArray, List.set_cons_zero, List.set_cons_succ]
  refine wpAnyH_take (i := 2) (oi := { dst := some 25, op := Op.move (Operand.tmp 7), type := 3, pos := "ref.go:13", after := #[], guard := none }) (v := ?_) rfl (by kernel_rfl) (by kernel_rfl) (by kernel_rfl) (fun _ _ _ h => h) (Or.inl ⟨by rfl, ?_⟩) (by assumption) ?_
  rotate_left
  · intro w hSw; (try dsimp only at hSw); go_simp; try (with_reducible rfl)
  try simp only [Act.put, List.setIfInBounds_toArray, List.set_cons_zero, List.set_cons_succ]
  refine wpAnyH_take (i := 3) (oi := { dst := some 26, op := Op.indexAddr 22 (Operand.tmp 24) (Operand.tmp 25), type := 0, pos := "ref.go:13", after := #[{ on := 1, ground := Ground.data }, { on := 2, ground := Ground.data }], guard := none }) (v := ?_) rfl (by kernel_rfl) (by kernel_rfl) (by kernel_rfl) (fun _ _ _ h => h) (Or.inl ⟨by rfl, ?_⟩) (by assumption) ?_
  rotate_left
  · intro w hSw; (try dsimp only at hSw); go_simp; try (with_reducible rfl)
  try simp only [Act.put, List.setIfInBounds_toArray, List.set_cons_zero, List.set_cons_succ]
  refine wpAnyH_take (i := 4) (oi := { dst := some 27, op := Op.load 3 (Operand.tmp 26), type := 3, pos := "ref.go:13", after := #[{ on := 3, ground := Ground.data }], guard := none }) (v := ?_) rfl (by kernel_rfl) (by kernel_rfl) (by kernel_rfl) (fun _ _ _ h => h) (Or.inl ⟨by rfl, ?_⟩) (by assumption) ?_
  rotate_left
  · intro w hSw; (try dsimp only at hSw); go_simp; try (with_reducible rfl)
  try simp only [Act.put, List.setIfInBounds_toArray, List.set_cons_zero, List.set_cons_succ]
  refine wpAnyH_take (i := 5) (oi := { dst := some 28, op := Op.fieldAddr 24 (Operand.tmp 2) 2, type := 0, pos := "ref.go:13", after := #[], guard := none }) (v := ?_) rfl (by kernel_rfl) (by kernel_rfl) (by kernel_rfl) (fun _ _ _ h => h) (Or.inl ⟨by rfl, ?_⟩) (by assumption) ?_
  rotate_left
  · intro w hSw; (try dsimp only at hSw); go_simp; try (with_reducible rfl)
  try simp only [Act.put, List.setIfInBounds_toArray, List.set_cons_zero, List.set_cons_succ]
  refine wpAnyH_take (i := 6) (oi := { dst := some 29, op := Op.load 22 (Operand.tmp 28), type := 22, pos := "ref.go:13", after := #[{ on := 5, ground := Ground.data }], guard := none }) (v := ?_) rfl (by kernel_rfl) (by kernel_rfl) (by kernel_rfl) (fun _ _ _ h => h) (Or.inl ⟨by rfl, ?_⟩) (by assumption) ?_
  rotate_left
  · intro w hSw; (try dsimp only at hSw); go_simp; try (with_reducible rfl)
  try simp only [Act.put, List.setIfInBounds_toArray, List.set_cons_zero, List.set_cons_succ]
  refine wpAnyH_take (i := 7) (oi := { dst := some 30, op := Op.move (Operand.tmp 7), type := 3, pos := "ref.go:13", after := #[], guard := none }) (v := ?_) rfl (by kernel_rfl) (by kernel_rfl) (by kernel_rfl) (fun _ _ _ h => h) (Or.inl ⟨by rfl, ?_⟩) (by assumption) ?_
  rotate_left
  · intro w hSw; (try dsimp only at hSw); go_simp; try (with_reducible rfl)
  try simp only [Act.put, List.setIfInBounds_toArray, List.set_cons_zero, List.set_cons_succ]
  refine wpAnyH_take (i := 8) (oi := { dst := some 31, op := Op.binOp BinOp.add 3 (Operand.tmp 30) (Operand.const (Value.int IntKind.i64 1)) 3, type := 3, pos := "ref.go:13", after := #[{ on := 7, ground := Ground.data }], guard := none }) (v := ?_) rfl (by kernel_rfl) (by kernel_rfl) (by kernel_rfl) (fun _ _ _ h => h) (Or.inl ⟨by rfl, ?_⟩) (by assumption) ?_
  rotate_left
  · intro w hSw; (try dsimp only at hSw); go_simp; try (with_reducible rfl)
  try simp only [Act.put, List.setIfInBounds_toArray, List.set_cons_zero, List.set_cons_succ]
  refine wpAnyH_take (i := 9) (oi := { dst := some 32, op := Op.indexAddr 22 (Operand.tmp 29) (Operand.tmp 31), type := 0, pos := "ref.go:13", after := #[{ on := 6, ground := Ground.data }, { on := 8, ground := Ground.data }], guard := none }) (v := ?_) rfl (by kernel_rfl) (by kernel_rfl) (by kernel_rfl) (fun _ _ _ h => h) (Or.inl ⟨by rfl, ?_⟩) (by assumption) ?_
  rotate_left
  · intro w hSw; (try dsimp only at hSw); go_simp; try (with_reducible rfl)
  try simp only [Act.put, List.setIfInBounds_toArray, List.set_cons_zero, List.set_cons_succ]
  refine wpAnyH_take (i := 10) (oi := { dst := some 33, op := Op.load 3 (Operand.tmp 32), type := 3, pos := "ref.go:13", after := #[{ on := 9, ground := Ground.data }], guard := none }) (v := ?_) rfl (by kernel_rfl) (by kernel_rfl) (by kernel_rfl) (fun _ _ _ h => h) (Or.inl ⟨by rfl, ?_⟩) (by assumption) ?_
  rotate_left
  · intro w hSw; (try dsimp only at hSw); go_simp; try (with_reducible rfl)
  try simp only [Act.put, List.setIfInBounds_toArray, List.set_cons_zero, List.set_cons_succ]
  refine wpAnyH_take (i := 11) (oi := { dst := some 34, op := Op.fieldAddr 24 (Operand.tmp 2) 2, type := 0, pos := "ref.go:13", after := #[], guard := none }) (v := ?_) rfl (by kernel_rfl) (by kernel_rfl) (by kernel_rfl) (fun _ _ _ h => h) (Or.inl ⟨by rfl, ?_⟩) (by assumption) ?_
  rotate_left
  · intro w hSw; (try dsimp only at hSw); go_simp; try (with_reducible rfl)
  try simp only [Act.put, List.setIfInBounds_toArray, List.set_cons_zero, List.set_cons_succ]
  refine wpAnyH_take (i := 12) (oi := { dst := some 35, op := Op.load 22 (Operand.tmp 34), type := 22, pos := "ref.go:13", after := #[{ on := 11, ground := Ground.data }], guard := none }) (v := ?_) rfl (by kernel_rfl) (by kernel_rfl) (by kernel_rfl) (fun _ _ _ h => h) (Or.inl ⟨by rfl, ?_⟩) (by assumption) ?_
  rotate_left
  · intro w hSw; (try dsimp only at hSw); go_simp; try (with_reducible rfl)
  try simp only [Act.put, List.setIfInBounds_toArray, List.set_cons_zero, List.set_cons_succ]
  refine wpAnyH_take (i := 13) (oi := { dst := some 36, op := Op.move (Operand.tmp 7), type := 3, pos := "ref.go:13", after := #[], guard := none }) (v := ?_) rfl (by kernel_rfl) (by kernel_rfl) (by kernel_rfl) (fun _ _ _ h => h) (Or.inl ⟨by rfl, ?_⟩) (by assumption) ?_
  rotate_left
  · intro w hSw; (try dsimp only at hSw); go_simp; try (with_reducible rfl)
  try simp only [Act.put, List.setIfInBounds_toArray, List.set_cons_zero, List.set_cons_succ]
  refine wpAnyH_take (i := 14) (oi := { dst := some 37, op := Op.fieldAddr 24 (Operand.tmp 2) 0, type := 0, pos := "ref.go:13", after := #[], guard := none }) (v := ?_) rfl (by kernel_rfl) (by kernel_rfl) (by kernel_rfl) (fun _ _ _ h => h) (Or.inl ⟨by rfl, ?_⟩) (by assumption) ?_
  rotate_left
  · intro w hSw; (try dsimp only at hSw); go_simp; try (with_reducible rfl)
  try simp only [Act.put, List.setIfInBounds_toArray, List.set_cons_zero, List.set_cons_succ]
  refine wpAnyH_take (i := 15) (oi := { dst := some 38, op := Op.load 3 (Operand.tmp 37), type := 3, pos := "ref.go:13", after := #[{ on := 14, ground := Ground.data }], guard := none }) (v := ?_) rfl (by kernel_rfl) (by kernel_rfl) (by kernel_rfl) (fun _ _ _ h => h) (Or.inl ⟨by rfl, ?_⟩) (by assumption) ?_
  rotate_left
  · intro w hSw; (try dsimp only at hSw); go_simp; try (with_reducible rfl)
  try simp only [Act.put, List.setIfInBounds_toArray, List.set_cons_zero, List.set_cons_succ]
  refine wpAnyH_take (i := 16) (oi := { dst := some 39, op := Op.binOp BinOp.add 3 (Operand.tmp 36) (Operand.tmp 38) 3, type := 3, pos := "ref.go:13", after := #[{ on := 13, ground := Ground.data }, { on := 15, ground := Ground.data }], guard := none }) (v := ?_) rfl (by kernel_rfl) (by kernel_rfl) (by kernel_rfl) (fun _ _ _ h => h) (Or.inl ⟨by rfl, ?_⟩) (by assumption) ?_
  rotate_left
  · intro w hSw; (try dsimp only at hSw); go_simp; try (with_reducible rfl)
  try simp only [Act.put, List.setIfInBounds_toArray, List.set_cons_zero, List.set_cons_succ]
  refine wpAnyH_take (i := 17) (oi := { dst := some 40, op := Op.binOp BinOp.add 3 (Operand.tmp 39) (Operand.const (Value.int IntKind.i64 2)) 3, type := 3, pos := "ref.go:13", after := #[{ on := 16, ground := Ground.data }], guard := none }) (v := ?_) rfl (by kernel_rfl) (by kernel_rfl) (by kernel_rfl) (fun _ _ _ h => h) (Or.inl ⟨by rfl, ?_⟩) (by assumption) ?_
  rotate_left
  · intro w hSw; (try dsimp only at hSw); go_simp; try (with_reducible rfl)
  try simp only [Act.put, List.setIfInBounds_toArray, List.set_cons_zero, List.set_cons_succ]
  refine wpAnyH_take (i := 18) (oi := { dst := some 41, op := Op.indexAddr 22 (Operand.tmp 35) (Operand.tmp 40), type := 0, pos := "ref.go:13", after := #[{ on := 12, ground := Ground.data }, { on := 17, ground := Ground.data }], guard := none }) (v := ?_) rfl (by kernel_rfl) (by kernel_rfl) (by kernel_rfl) (fun _ _ _ h => h) (Or.inl ⟨by rfl, ?_⟩) (by assumption) ?_
  rotate_left
  · intro w hSw; (try dsimp only at hSw); go_simp; try (with_reducible rfl)
  try simp only [Act.put, List.setIfInBounds_toArray, List.set_cons_zero, List.set_cons_succ]
  refine wpAnyH_take (i := 19) (oi := { dst := some 42, op := Op.load 3 (Operand.tmp 41), type := 3, pos := "ref.go:13", after := #[{ on := 18, ground := Ground.data }], guard := none }) (v := ?_) rfl (by kernel_rfl) (by kernel_rfl) (by kernel_rfl) (fun _ _ _ h => h) (Or.inl ⟨by rfl, ?_⟩) (by assumption) ?_
  rotate_left
  · intro w hSw; (try dsimp only at hSw); go_simp; try (with_reducible rfl)
  try simp only [Act.put, List.setIfInBounds_toArray, List.set_cons_zero, List.set_cons_succ]
  refine wpAnyH_take (i := 20) (oi := { dst := some 43, op := Op.fieldAddr 24 (Operand.tmp 2) 2, type := 0, pos := "ref.go:13", after := #[], guard := none }) (v := ?_) rfl (by kernel_rfl) (by kernel_rfl) (by kernel_rfl) (fun _ _ _ h => h) (Or.inl ⟨by rfl, ?_⟩) (by assumption) ?_
  rotate_left
  · intro w hSw; (try dsimp only at hSw); go_simp; try (with_reducible rfl)
  try simp only [Act.put, List.setIfInBounds_toArray, List.set_cons_zero, List.set_cons_succ]
  refine wpAnyH_take (i := 21) (oi := { dst := some 44, op := Op.load 22 (Operand.tmp 43), type := 22, pos := "ref.go:13", after := #[{ on := 20, ground := Ground.data }], guard := none }) (v := ?_) rfl (by kernel_rfl) (by kernel_rfl) (by kernel_rfl) (fun _ _ _ h => h) (Or.inl ⟨by rfl, ?_⟩) (by assumption) ?_
  rotate_left
  · intro w hSw; (try dsimp only at hSw); go_simp; try (with_reducible rfl)
  try simp only [Act.put, List.setIfInBounds_toArray, List.set_cons_zero, List.set_cons_succ]
  refine wpAnyH_take (i := 22) (oi := { dst := some 45, op := Op.move (Operand.tmp 7), type := 3, pos := "ref.go:13", after := #[], guard := none }) (v := ?_) rfl (by kernel_rfl) (by kernel_rfl) (by kernel_rfl) (fun _ _ _ h => h) (Or.inl ⟨by rfl, ?_⟩) (by assumption) ?_
  rotate_left
  · intro w hSw; (try dsimp only at hSw); go_simp; try (with_reducible rfl)
  try simp only [Act.put, List.setIfInBounds_toArray, List.set_cons_zero, List.set_cons_succ]
  refine wpAnyH_take (i := 23) (oi := { dst := some 46, op := Op.fieldAddr 24 (Operand.tmp 2) 0, type := 0, pos := "ref.go:13", after := #[], guard := none }) (v := ?_) rfl (by kernel_rfl) (by kernel_rfl) (by kernel_rfl) (fun _ _ _ h => h) (Or.inl ⟨by rfl, ?_⟩) (by assumption) ?_
  rotate_left
  · intro w hSw; (try dsimp only at hSw); go_simp; try (with_reducible rfl)
  try simp only [Act.put, List.setIfInBounds_toArray, List.set_cons_zero, List.set_cons_succ]
  refine wpAnyH_take (i := 24) (oi := { dst := some 47, op := Op.load 3 (Operand.tmp 46), type := 3, pos := "ref.go:13", after := #[{ on := 23, ground := Ground.data }], guard := none }) (v := ?_) rfl (by kernel_rfl) (by kernel_rfl) (by kernel_rfl) (fun _ _ _ h => h) (Or.inl ⟨by rfl, ?_⟩) (by assumption) ?_
  rotate_left
  · intro w hSw; (try dsimp only at hSw); go_simp; try (with_reducible rfl)
  try simp only [Act.put, List.setIfInBounds_toArray, List.set_cons_zero, List.set_cons_succ]
  refine wpAnyH_take (i := 25) (oi := { dst := some 48, op := Op.binOp BinOp.add 3 (Operand.tmp 45) (Operand.tmp 47) 3, type := 3, pos := "ref.go:13", after := #[{ on := 22, ground := Ground.data }, { on := 24, ground := Ground.data }], guard := none }) (v := ?_) rfl (by kernel_rfl) (by kernel_rfl) (by kernel_rfl) (fun _ _ _ h => h) (Or.inl ⟨by rfl, ?_⟩) (by assumption) ?_
  rotate_left
  · intro w hSw; (try dsimp only at hSw); go_simp; try (with_reducible rfl)
  try simp only [Act.put, List.setIfInBounds_toArray, List.set_cons_zero, List.set_cons_succ]
  refine wpAnyH_take (i := 26) (oi := { dst := some 49, op := Op.binOp BinOp.add 3 (Operand.tmp 48) (Operand.const (Value.int IntKind.i64 1)) 3, type := 3, pos := "ref.go:13", after := #[{ on := 25, ground := Ground.data }], guard := none }) (v := ?_) rfl (by kernel_rfl) (by kernel_rfl) (by kernel_rfl) (fun _ _ _ h => h) (Or.inl ⟨by rfl, ?_⟩) (by assumption) ?_
  rotate_left
  · intro w hSw; (try dsimp only at hSw); go_simp; try (with_reducible rfl)
  try simp only [Act.put, List.setIfInBounds_toArray, List.set_cons_zero, List.set_cons_succ]
  refine wpAnyH_take (i := 27) (oi := { dst := some 50, op := Op.indexAddr 22 (Operand.tmp 44) (Operand.tmp 49), type := 0, pos := "ref.go:13", after := #[{ on := 21, ground := Ground.data }, { on := 26, ground := Ground.data }], guard := none }) (v := ?_) rfl (by kernel_rfl) (by kernel_rfl) (by kernel_rfl) (fun _ _ _ h => h) (Or.inl ⟨by rfl, ?_⟩) (by assumption) ?_
  rotate_left
  · intro w hSw; (try dsimp only at hSw); go_simp; try (with_reducible rfl)
  try simp only [Act.put, List.setIfInBounds_toArray, List.set_cons_zero, List.set_cons_succ]
  refine wpAnyH_take (i := 28) (oi := { dst := some 51, op := Op.load 3 (Operand.tmp 50), type := 3, pos := "ref.go:13", after := #[{ on := 27, ground := Ground.data }], guard := none }) (v := ?_) rfl (by kernel_rfl) (by kernel_rfl) (by kernel_rfl) (fun _ _ _ h => h) (Or.inl ⟨by rfl, ?_⟩) (by assumption) ?_
  rotate_left
  · intro w hSw; (try dsimp only at hSw); go_simp; try (with_reducible rfl)
  try simp only [Act.put, List.setIfInBounds_toArray, List.set_cons_zero, List.set_cons_succ]
  refine wpAnyH_take (i := 29) (oi := { dst := some 52, op := Op.build 75 #[(0, Operand.tmp 27), (1, Operand.tmp 33), (2, Operand.tmp 42), (3, Operand.tmp 51)], type := 75, pos := "ref.go:13", after := #[{ on := 4, ground := Ground.data }, { on := 10, ground := Ground.data }, { on := 19, ground := Ground.data }, { on := 28, ground := Ground.data }], guard := none }) (v := ?_) rfl (by kernel_rfl) (by kernel_rfl) (by kernel_rfl) (fun _ _ _ h => h) (Or.inl ⟨by rfl, ?_⟩) (by assumption) ?_
  rotate_left
  · intro w hSw; (try dsimp only at hSw); go_simp; try (with_reducible rfl)
  try simp only [Act.put, List.setIfInBounds_toArray, List.set_cons_zero, List.set_cons_succ]
  refine wpAnyH_ready (rs := [30]) (by kernel_rfl) (by simp) ?_
  refine (AllReadyH.cons (o := { dst := none, op := Op.store 75 (Operand.tmp 4) (Operand.tmp 52), type := 0, pos := "ref.go:13", after := #[{ on := 29, ground := Ground.data }, { on := 0, ground := Ground.phase }, { on := 1, ground := Ground.phase }, { on := 2, ground := Ground.phase }, { on := 3, ground := Ground.phase }, { on := 4, ground := Ground.phase }, { on := 5, ground := Ground.phase }, { on := 6, ground := Ground.phase }, { on := 7, ground := Ground.phase }, { on := 8, ground := Ground.phase }, { on := 9, ground := Ground.phase }, { on := 10, ground := Ground.phase }, { on := 11, ground := Ground.phase }, { on := 12, ground := Ground.phase }, { on := 13, ground := Ground.phase }, { on := 14, ground := Ground.phase }, { on := 15, ground := Ground.phase }, { on := 16, ground := Ground.phase }, { on := 17, ground := Ground.phase }, { on := 18, ground := Ground.phase }, { on := 19, ground := Ground.phase }, { on := 20, ground := Ground.phase }, { on := 21, ground := Ground.phase }, { on := 22, ground := Ground.phase }, { on := 23, ground := Ground.phase }, { on := 24, ground := Ground.phase }, { on := 25, ground := Ground.phase }, { on := 26, ground := Ground.phase }, { on := 27, ground := Ground.phase }, { on := 28, ground := Ground.phase }, { on := 29, ground := Ground.phase }], guard := none }) rfl (fun K hK => ?_) AllReadyH.nil)
  · skip
    obtain ⟨q0, q1, q2, q3, q4, q5, q6, q7, q8⟩ := bx_facts4 FR3'
    go_simp
    obtain ⟨wx1, hw1, FR3_1, ho1, hlo1z, hb1⟩ := bx_put4 FR3' (.int .i64 z0) (.int .i64 z1) (.int .i64 z2) (.int .i64 z3)
    rw [← hw1]
    have hlo1 := Nat.le_trans hlo0 (Nat.le_of_eq hlo1z.symm)
    have hHeld1S := cb_put hbz D.out HI.out hHeld (hb1 _ hloR)
    clear hw1 ho1 hlo1z q0 q1 q2 q3 q4 q5 q6 q7 q8
    refine hK.out _ _ hHeld1S (fun hHeld1 => ?_)
    clear hK K hHeld1S hb1 hlo0 FR3'
    try simp only [Act.put, List.setIfInBounds_toArray, List.set_cons_zero, List.set_cons_succ]
    clear hHeld
    refine wpAnyH_done (by kernel_rfl) ?_ _
    have HE := hid (And.intro hHeld1.1.below FR3_1)
    go_wp2_with fail
    obtain ⟨q0, q1, q2, q3, _, _, _, _, _⟩ := bx_facts4 HE.out.2
    exact bodyPost_ret (v := .agg #[.int .i64 z0, .int .i64 z1, .int .i64 z2, .int .i64 z3]) (by simp [results, Try.results61, go_sem, q0, q1, q2, q3]) rfl ⟨rfl, HE.out.1⟩

/-- The lesser of two; the least of four, as the program runs. -/
def lst (x y : Int) : Int := if y < x then y else x
theorem run_min4 (w : World) (ts : Array TypeId) (t : TypeId) (a b c d : Int) : (Builtin.min_ ts t #[.int .i64 a, .int .i64 b, .int .i64 c, .int .i64 d]).run Try.prog w = .ok (.int .i64 (lst (lst (lst a b) c) d)) w := by
  simp [Builtin.min_, Builtin.min2]
  unfold lst
  first
    | rfl
    | ((repeat' split) <;> first | rfl | omega)
set_option maxHeartbeats 3200000 in
theorem base_any (W H : Nat) (ao : Option Addr) (n cap : Nat) (Z : Nat → Int) (hg : Good W H n Z) (u : Nat) (hu : u < W * H) (w : World) (hI : Ints w ao n Z) :
    Calls Try.prog 59 #[lv W H (.slice ao n cap), .int .i64 u] w fun r w' => r = .returned (.int .i64 (base W Z u)) ∧ Below w.heap.size w w' := by
  have HL := hid (lb_start (W := W) (H := H) (cap := cap) hI)
  have HG := hid hg
  have HU := hid hu
  obtain ⟨z0, e0⟩ : ∃ z, z = Z (nw W u) := ⟨_, rfl⟩
  obtain ⟨z1, e1⟩ : ∃ z, z = Z (nw W u + 1) := ⟨_, rfl⟩
  obtain ⟨z2, e2⟩ : ∃ z, z = Z (nw W u + W + 2) := ⟨_, rfl⟩
  obtain ⟨z3, e3⟩ : ∃ z, z = Z (nw W u + W + 1) := ⟨_, rfl⟩
  have HZ : Hid (fourH W Z u = .agg #[.int .i64 z0, .int .i64 z1, .int .i64 z2, .int .i64 z3]) := hid (by unfold fourH; rw [e0, e1, e2, e3])
  obtain ⟨bm, hbm⟩ : ∃ m, m = lst (lst (lst z0 z1) z2) z3 := ⟨_, rfl⟩
  have hb : base W Z u = bm := by rw [hbm]; unfold base mn4 lst; rw [← e0, ← e1, ← e2, ← e3]; omega
  have hmin : ∀ (w : World) (ts : Array TypeId) (t : TypeId), (Builtin.min_ ts t #[.int .i64 z0, .int .i64 z1, .int .i64 z2, .int .i64 z3]).run Try.prog w = .ok (.int .i64 bm) w := fun w ts t => by rw [hbm]; exact run_min4 w ts t z0 z1 z2 z3
  rw [hb]
  clear hI hg hu e0 e1 e2 e3 hb hbm
  go_enter Try.func59, Try.ntmps59
  go_wp2_with fail
  refine (corners_any W H ao n cap Z HG.out u HU.out _ HL.out.ints).mono ?_
  rw [HZ.out]
  rintro r w2 ⟨rfl, hb2⟩
  have HL2 := hid ((HL.out.stays hb2).stays (Joins.below_alloc1 _ (.cells #[.int .i64 z0, .int .i64 z1, .int .i64 z2, .int .i64 z3] 75)))
  clear hb2
  go_wp2_with fail
  go_ret
  exact ⟨rfl, HL2.out.below⟩

/-- How the reference adds a slope's bits. -/
theorem slope_sum (W : Nat) (Z : Nat → Int) (u : Nat) (p q : Nat → Bool) (hp : p = fun k => decide (base W Z u < at4 (Z (nw W u)) (Z (nw W u + 1)) (Z (nw W u + W + 2)) (Z (nw W u + W + 1)) k)) (hq : q = fun k => decide (base W Z u + 1 < at4 (Z (nw W u)) (Z (nw W u + 1)) (Z (nw W u + W + 2)) (Z (nw W u + W + 1)) k)) :
    slope W Z u = if q 0 || q 1 || q 2 || q 3 then slR p 4 + 16 else slR p 4 := by
  unfold slope; rw [← hp, ← hq, sl_same]

set_option maxRecDepth 20000 in
set_option maxHeartbeats 6400000 in
theorem rslope_any (W H : Nat) (ao : Option Addr) (n cap : Nat) (Z : Nat → Int) (hg : Good W H n Z) (u : Nat) (hu : u < W * H) (w : World) (hI : Ints w ao n Z) :
    Calls Try.prog 60 #[lv W H (.slice ao n cap), .int .i64 u] w fun r w' => r = .returned (.int .i64 (slope W Z u)) ∧ Below w.heap.size w w' := by
  have HL := hid (lb_start (W := W) (H := H) (cap := cap) hI)
  have HI := hid hI
  have HG := hid hg
  have HU := hid hu
  have hbs := base_high hg hu
  obtain ⟨p, hpp⟩ : ∃ p : Nat → Bool, p = fun k => decide (base W Z u < at4 (Z (nw W u)) (Z (nw W u + 1)) (Z (nw W u + W + 2)) (Z (nw W u + W + 1)) k) := ⟨_, rfl⟩
  obtain ⟨q, hqq⟩ : ∃ q : Nat → Bool, q = fun k => decide (base W Z u + 1 < at4 (Z (nw W u)) (Z (nw W u + 1)) (Z (nw W u + W + 2)) (Z (nw W u + W + 1)) k) := ⟨_, rfl⟩
  have HSL := hid (slope_sum W Z u p q hpp hqq)
  obtain ⟨sl, hsl⟩ : ∃ s, s = slope W Z u := ⟨_, rfl⟩
  rw [← hsl] at HSL ⊢
  obtain ⟨m, hm⟩ : ∃ m, m = base W Z u := ⟨_, rfl⟩
  have HM := hid hm
  rw [← hm] at hpp hqq hbs
  obtain ⟨z0, e0⟩ : ∃ z, z = Z (nw W u) := ⟨_, rfl⟩
  obtain ⟨z1, e1⟩ : ∃ z, z = Z (nw W u + 1) := ⟨_, rfl⟩
  obtain ⟨z2, e2⟩ : ∃ z, z = Z (nw W u + W + 2) := ⟨_, rfl⟩
  obtain ⟨z3, e3⟩ : ∃ z, z = Z (nw W u + W + 1) := ⟨_, rfl⟩
  have HZ : Hid (fourH W Z u = .agg #[.int .i64 z0, .int .i64 z1, .int .i64 z2, .int .i64 z3]) := hid (by unfold fourH; rw [e0, e1, e2, e3])
  rw [← e0, ← e1, ← e2, ← e3] at hpp hqq
  have P0 : p 0 = decide (m < z0) := by rw [hpp]; rfl
  have P1 : p 1 = decide (m < z1) := by rw [hpp]; rfl
  have P2 : p 2 = decide (m < z2) := by rw [hpp]; rfl
  have P3 : p 3 = decide (m < z3) := by rw [hpp]; rfl
  have Q0 : q 0 = decide (m + 1 < z0) := by rw [hqq]; rfl
  have Q1 : q 1 = decide (m + 1 < z1) := by rw [hqq]; rfl
  have Q2 : q 2 = decide (m + 1 < z2) := by rw [hqq]; rfl
  have Q3 : q 3 = decide (m + 1 < z3) := by rw [hqq]; rfl
  have PP := hid (And.intro P0 (And.intro P1 (And.intro P2 P3)))
  have QQ := hid (And.intro Q0 (And.intro Q1 (And.intro Q2 Q3)))
  obtain ⟨hm0, hm1⟩ := hbs
  clear hI hg hu hpp hqq e0 e1 e2 e3 hsl hm P0 P1 P2 P3 Q0 Q1 Q2 Q3
  go_enter Try.func60, Try.ntmps60
  go_upto_region 1 with fail
  generalize World.alloc w _ = w3 at HL ⊢
  have hz3 : w.heap.size + 1 ≤ w3.heap.size := HL.out.size
  go_cut [5, 6, 7] from 10 to 15 (fun s5 s6 s7 wx => ∃ g : Nat, s5 = .pointer (some ⟨g, 0, none⟩) ∧ s6 = .int .i64 m ∧ s7 = .int .i64 0 ∧ Hid (LB W H ao n cap Z w wx ∧ wx.heap[g]? = some (.cells #[.int .i64 z0, .int .i64 z1, .int .i64 z2, .int .i64 z3] 75 (0, 0))))
  case first =>
    refine wp_region_held_drew (S := (fun wr => LB W H ao n cap Z w wr ∧ wr.cell? ⟨w.heap.size, 0, none⟩ = some (.int .i64 W) ∧ wr.cell? ⟨w.heap.size, 1, none⟩ = some (.int .i64 H) ∧ wr.cell? ⟨w.heap.size, 2, none⟩ = some (.slice ao n cap))) (by kernel_rfl) (lb_keep2 (And.intro HL.out trivial) ((Below.refl _ _).drew)) (fun hHeld => ?_)
    have hlo0 : w.heap.size + 1 ≤ (w3.drew).heap.size := hz3
    generalize w3.drew = wx0 at hHeld hlo0  ⊢
    refine wpAnyH_take (i := 0) (oi := { dst := some 10, op := Op.load 24 (Operand.tmp 2), type := 24, pos := "ref.go:24", after := #[], guard := none }) (v := ?_) rfl (by kernel_rfl) (by kernel_rfl) (by kernel_rfl) (fun _ _ _ h => h) (Or.inl ⟨by rfl, ?_⟩) (by assumption) ?_
    rotate_left
    · intro w hSw; (try dsimp only at hSw); go_simp; try (with_reducible rfl)
    try simp only [Act.put, List.setIfInBounds_toArray, List.set_cons_zero, List.set_cons_succ]
    refine wpAnyH_take (i := 1) (oi := { dst := some 11, op := Op.move (Operand.tmp 1), type := 3, pos := "ref.go:24", after := #[], guard := none }) (v := ?_) rfl (by kernel_rfl) (by kernel_rfl) (by kernel_rfl) (fun _ _ _ h => h) (Or.inl ⟨by rfl, ?_⟩) (by assumption) ?_
    rotate_left
    · intro w hSw; (try dsimp only at hSw); go_simp; try (with_reducible rfl)
    try simp only [Act.put, List.setIfInBounds_toArray, List.set_cons_zero, List.set_cons_succ]
    refine wpAnyH_take (i := 3) (oi := { dst := some 13, op := Op.load 24 (Operand.tmp 2), type := 24, pos := "ref.go:24", after := #[], guard := none }) (v := ?_) rfl (by kernel_rfl) (by kernel_rfl) (by kernel_rfl) (fun _ _ _ h => h) (Or.inl ⟨by rfl, ?_⟩) (by assumption) ?_
    rotate_left
    · intro w hSw; (try dsimp only at hSw); go_simp; try (with_reducible rfl)
    try simp only [Act.put, List.setIfInBounds_toArray, List.set_cons_zero, List.set_cons_succ]
    refine wpAnyH_take (i := 4) (oi := { dst := some 14, op := Op.move (Operand.tmp 1), type := 3, pos := "ref.go:24", after := #[], guard := none }) (v := ?_) rfl (by kernel_rfl) (by kernel_rfl) (by kernel_rfl) (fun _ _ _ h => h) (Or.inl ⟨by rfl, ?_⟩) (by assumption) ?_
    rotate_left
    · intro w hSw; (try dsimp only at hSw); go_simp; try (with_reducible rfl)
    try simp only [Act.put, List.setIfInBounds_toArray, List.set_cons_zero, List.set_cons_succ]
    refine wpAnyH_ready (rs := [2, 6]) (by kernel_rfl) (by simp) ?_
    refine (AllReadyH.cons (o := { dst := some 12, op := Op.call { callee := Callee.value (Operand.func 61), args := #[Operand.tmp 10, Operand.tmp 11], argTypes := #[24, 3] }, type := 75, pos := "ref.go:24", after := #[{ on := 0, ground := Ground.data }, { on := 1, ground := Ground.data }], guard := none }) rfl (fun K hK => ?_) (AllReadyH.cons (o := { dst := some 5, op := Op.alloc 75, type := 0, pos := "ref.go:24", after := #[], guard := none }) rfl (fun K hK => ?_) AllReadyH.nil))
    · skip
      go_simp
      refine (corners_any W H ao n cap Z HG.out u HU.out _ (lb_ints2 (by assumption))).mono ?_
      rw [HZ.out]
      rintro e wx1 ⟨rfl, hb1⟩
      try go_wp2_with fail
      have hlo1 := Nat.le_trans hlo0 hb1.size
      have hHeld1S := lb_keep2 hHeld hb1
      refine hK.out _ _ hHeld1S (fun hHeld1 => ?_)
      clear hK K hHeld1S hb1 hlo0 
      try simp only [Act.put, List.setIfInBounds_toArray, List.set_cons_zero, List.set_cons_succ]
      clear hHeld
      refine wpAnyH_ready (rs := [5, 6]) (by kernel_rfl) (by simp) ?_
      refine (AllReadyH.cons (o := { dst := some 15, op := Op.call { callee := Callee.value (Operand.func 59), args := #[Operand.tmp 13, Operand.tmp 14], argTypes := #[24, 3] }, type := 3, pos := "ref.go:24", after := #[{ on := 3, ground := Ground.data }, { on := 4, ground := Ground.data }, { on := 2, ground := Ground.chain }], guard := none }) rfl (fun K hK => ?_) (AllReadyH.cons (o := { dst := some 5, op := Op.alloc 75, type := 0, pos := "ref.go:24", after := #[], guard := none }) rfl (fun K hK => ?_) AllReadyH.nil))
      · skip
        go_simp
        refine (base_any W H ao n cap Z HG.out u HU.out _ (lb_ints2 (by assumption))).mono ?_
        rw [← HM.out]
        rintro e wx2 ⟨rfl, hb2⟩
        try go_wp2_with fail
        have hlo2 := Nat.le_trans hlo1 hb2.size
        have hHeld2S := lb_keep2 hHeld1 hb2
        refine hK.out _ _ hHeld2S (fun hHeld2 => ?_)
        clear hK K hHeld2S hb2 hlo1 
        try simp only [Act.put, List.setIfInBounds_toArray, List.set_cons_zero, List.set_cons_succ]
        clear hHeld1
        refine wpAnyH_ready (rs := [6]) (by kernel_rfl) (by simp) ?_
        refine (AllReadyH.cons (o := { dst := some 5, op := Op.alloc 75, type := 0, pos := "ref.go:24", after := #[], guard := none }) rfl (fun K hK => ?_) AllReadyH.nil)
        · skip
          go_simp
          have hb3 := Joins.below_alloc1 wx2 (.cells #[.int .i64 0, .int .i64 0, .int .i64 0, .int .i64 0] 75)
          have FA_3 := World.alloc_heap_new wx2 (.cells #[.int .i64 0, .int .i64 0, .int .i64 0, .int .i64 0] 75)
          have hlo3 := Nat.le_trans hlo2 hb3.size
          have hloA := hlo2
          have hHeld3S := lb_keep2 hHeld2 hb3
          generalize World.alloc wx2 (.cells #[.int .i64 0, .int .i64 0, .int .i64 0, .int .i64 0] 75) = wx3 at hb3 hlo3 hHeld3S FA_3 ⊢
          obtain ⟨pA, hpA⟩ : ∃ p, p = wx2.heap.size := ⟨_, rfl⟩
          rw [← hpA] at FA_3 hloA ⊢
          clear hpA
          refine hK.out _ _ hHeld3S (fun hHeld3 => ?_)
          clear hK K hHeld3S hb3 hlo2 
          try simp only [Act.put, List.setIfInBounds_toArray, List.set_cons_zero, List.set_cons_succ]
          clear hHeld2
          refine wpAnyH_ready (rs := [7]) (by kernel_rfl) (by simp) ?_
          refine (AllReadyH.cons (o := { dst := none, op := Op.store 75 (Operand.tmp 5) (Operand.tmp 12), type := 0, pos := "ref.go:24", after := #[{ on := 6, ground := Ground.data }, { on := 2, ground := Ground.data }, { on := 5, ground := Ground.chain }, { on := 0, ground := Ground.phase }, { on := 1, ground := Ground.phase }, { on := 2, ground := Ground.phase }, { on := 3, ground := Ground.textOnly Departure.lateStores }, { on := 4, ground := Ground.textOnly Departure.lateStores }, { on := 5, ground := Ground.textOnly Departure.lateStoresUnsure }, { on := 6, ground := Ground.phase }], guard := none }) rfl (fun K hK => ?_) AllReadyH.nil)
          · skip
            obtain ⟨q0, q1, q2, q3, q4, q5, q6, q7, q8⟩ := bx_facts4 FA_3
            go_simp
            obtain ⟨wx4, hw4, FA_4, ho4, hlo4z, hb4⟩ := bx_put4 FA_3 (.int .i64 z0) (.int .i64 z1) (.int .i64 z2) (.int .i64 z3)
            rw [← hw4]
            have hlo4 := Nat.le_trans hlo3 (Nat.le_of_eq hlo4z.symm)
            have hHeld4S := lb_put2 HI.out hHeld3 (hb4 _ hloA)
            clear hw4 ho4 hlo4z q0 q1 q2 q3 q4 q5 q6 q7 q8
            refine hK.out _ _ hHeld4S (fun hHeld4 => ?_)
            clear hK K hHeld4S hb4 hlo3 FA_3
            try simp only [Act.put, List.setIfInBounds_toArray, List.set_cons_zero, List.set_cons_succ]
            clear hHeld3
            refine wpAnyH_take (i := 8) (oi := { dst := some 6, op := Op.assign (Operand.tmp 15), type := 3, pos := "ref.go:24", after := #[{ on := 5, ground := Ground.data }, { on := 7, ground := Ground.chain }, { on := 0, ground := Ground.phase }, { on := 1, ground := Ground.phase }, { on := 2, ground := Ground.phase }, { on := 3, ground := Ground.phase }, { on := 4, ground := Ground.phase }, { on := 5, ground := Ground.phase }, { on := 6, ground := Ground.phase }, { on := 7, ground := Ground.phase }], guard := none }) (v := ?_) rfl (by kernel_rfl) (by kernel_rfl) (by kernel_rfl) (fun _ _ _ h => h) (Or.inl ⟨by rfl, ?_⟩) (by assumption) ?_
            rotate_left
            · intro w hSw; (try dsimp only at hSw); go_simp; try (with_reducible rfl)
            try simp only [Act.put, List.setIfInBounds_toArray, List.set_cons_zero, List.set_cons_succ]
            refine wpAnyH_take (i := 9) (oi := { dst := some 7, op := Op.assign (Operand.const (Value.int IntKind.i64 0)), type := 3, pos := "ref.go:24", after := #[{ on := 8, ground := Ground.chain }, { on := 0, ground := Ground.phase }, { on := 1, ground := Ground.phase }, { on := 2, ground := Ground.phase }, { on := 3, ground := Ground.phase }, { on := 4, ground := Ground.phase }, { on := 5, ground := Ground.phase }, { on := 6, ground := Ground.phase }, { on := 7, ground := Ground.phase }, { on := 8, ground := Ground.phase }], guard := none }) (v := ?_) rfl (by kernel_rfl) (by kernel_rfl) (by kernel_rfl) (fun _ _ _ h => h) (Or.inl ⟨by rfl, ?_⟩) (by assumption) ?_
            rotate_left
            · intro w hSw; (try dsimp only at hSw); go_simp; try (with_reducible rfl)
            try simp only [Act.put, List.setIfInBounds_toArray, List.set_cons_zero, List.set_cons_succ]
            refine wpAnyH_done (by kernel_rfl) ?_ _
            have HE := hid (And.intro hHeld4.1 FA_4)
            clear hHeld4 FA_4
            go_wp2_with fail
            go_meet
            exact ⟨pA, rfl, rfl, rfl, HE⟩
      · skip
        go_simp
        have hb5 := Joins.below_alloc1 wx1 (.cells #[.int .i64 0, .int .i64 0, .int .i64 0, .int .i64 0] 75)
        have FA_5 := World.alloc_heap_new wx1 (.cells #[.int .i64 0, .int .i64 0, .int .i64 0, .int .i64 0] 75)
        have hlo5 := Nat.le_trans hlo1 hb5.size
        have hloA := hlo1
        have hHeld5S := lb_keep2 hHeld1 hb5
        generalize World.alloc wx1 (.cells #[.int .i64 0, .int .i64 0, .int .i64 0, .int .i64 0] 75) = wx5 at hb5 hlo5 hHeld5S FA_5 ⊢
        obtain ⟨pA, hpA⟩ : ∃ p, p = wx1.heap.size := ⟨_, rfl⟩
        rw [← hpA] at FA_5 hloA ⊢
        clear hpA
        refine hK.out _ _ hHeld5S (fun hHeld5 => ?_)
        clear hK K hHeld5S hb5 hlo1 
        try simp only [Act.put, List.setIfInBounds_toArray, List.set_cons_zero, List.set_cons_succ]
        clear hHeld1
        refine wpAnyH_ready (rs := [5]) (by kernel_rfl) (by simp) ?_
        refine (AllReadyH.cons (o := { dst := some 15, op := Op.call { callee := Callee.value (Operand.func 59), args := #[Operand.tmp 13, Operand.tmp 14], argTypes := #[24, 3] }, type := 3, pos := "ref.go:24", after := #[{ on := 3, ground := Ground.data }, { on := 4, ground := Ground.data }, { on := 2, ground := Ground.chain }], guard := none }) rfl (fun K hK => ?_) AllReadyH.nil)
        · skip
          go_simp
          refine (base_any W H ao n cap Z HG.out u HU.out _ (lb_ints2 (by assumption))).mono ?_
          rw [← HM.out]
          rintro e wx6 ⟨rfl, hb6⟩
          try go_wp2_with fail
          have FA_6 := kq0 hb6 FA_5
          have hlo6 := Nat.le_trans hlo5 hb6.size
          have hHeld6S := lb_keep2 hHeld5 hb6
          refine hK.out _ _ hHeld6S (fun hHeld6 => ?_)
          clear hK K hHeld6S hb6 hlo5 FA_5
          try simp only [Act.put, List.setIfInBounds_toArray, List.set_cons_zero, List.set_cons_succ]
          clear hHeld5
          refine wpAnyH_ready (rs := [7]) (by kernel_rfl) (by simp) ?_
          refine (AllReadyH.cons (o := { dst := none, op := Op.store 75 (Operand.tmp 5) (Operand.tmp 12), type := 0, pos := "ref.go:24", after := #[{ on := 6, ground := Ground.data }, { on := 2, ground := Ground.data }, { on := 5, ground := Ground.chain }, { on := 0, ground := Ground.phase }, { on := 1, ground := Ground.phase }, { on := 2, ground := Ground.phase }, { on := 3, ground := Ground.textOnly Departure.lateStores }, { on := 4, ground := Ground.textOnly Departure.lateStores }, { on := 5, ground := Ground.textOnly Departure.lateStoresUnsure }, { on := 6, ground := Ground.phase }], guard := none }) rfl (fun K hK => ?_) AllReadyH.nil)
          · skip
            obtain ⟨q0, q1, q2, q3, q4, q5, q6, q7, q8⟩ := bx_facts4 FA_6
            go_simp
            obtain ⟨wx7, hw7, FA_7, ho7, hlo7z, hb7⟩ := bx_put4 FA_6 (.int .i64 z0) (.int .i64 z1) (.int .i64 z2) (.int .i64 z3)
            rw [← hw7]
            have hlo7 := Nat.le_trans hlo6 (Nat.le_of_eq hlo7z.symm)
            have hHeld7S := lb_put2 HI.out hHeld6 (hb7 _ hloA)
            clear hw7 ho7 hlo7z q0 q1 q2 q3 q4 q5 q6 q7 q8
            refine hK.out _ _ hHeld7S (fun hHeld7 => ?_)
            clear hK K hHeld7S hb7 hlo6 FA_6
            try simp only [Act.put, List.setIfInBounds_toArray, List.set_cons_zero, List.set_cons_succ]
            clear hHeld6
            refine wpAnyH_take (i := 8) (oi := { dst := some 6, op := Op.assign (Operand.tmp 15), type := 3, pos := "ref.go:24", after := #[{ on := 5, ground := Ground.data }, { on := 7, ground := Ground.chain }, { on := 0, ground := Ground.phase }, { on := 1, ground := Ground.phase }, { on := 2, ground := Ground.phase }, { on := 3, ground := Ground.phase }, { on := 4, ground := Ground.phase }, { on := 5, ground := Ground.phase }, { on := 6, ground := Ground.phase }, { on := 7, ground := Ground.phase }], guard := none }) (v := ?_) rfl (by kernel_rfl) (by kernel_rfl) (by kernel_rfl) (fun _ _ _ h => h) (Or.inl ⟨by rfl, ?_⟩) (by assumption) ?_
            rotate_left
            · intro w hSw; (try dsimp only at hSw); go_simp; try (with_reducible rfl)
            try simp only [Act.put, List.setIfInBounds_toArray, List.set_cons_zero, List.set_cons_succ]
            refine wpAnyH_take (i := 9) (oi := { dst := some 7, op := Op.assign (Operand.const (Value.int IntKind.i64 0)), type := 3, pos := "ref.go:24", after := #[{ on := 8, ground := Ground.chain }, { on := 0, ground := Ground.phase }, { on := 1, ground := Ground.phase }, { on := 2, ground := Ground.phase }, { on := 3, ground := Ground.phase }, { on := 4, ground := Ground.phase }, { on := 5, ground := Ground.phase }, { on := 6, ground := Ground.phase }, { on := 7, ground := Ground.phase }, { on := 8, ground := Ground.phase }], guard := none }) (v := ?_) rfl (by kernel_rfl) (by kernel_rfl) (by kernel_rfl) (fun _ _ _ h => h) (Or.inl ⟨by rfl, ?_⟩) (by assumption) ?_
            rotate_left
            · intro w hSw; (try dsimp only at hSw); go_simp; try (with_reducible rfl)
            try simp only [Act.put, List.setIfInBounds_toArray, List.set_cons_zero, List.set_cons_succ]
            refine wpAnyH_done (by kernel_rfl) ?_ _
            have HE := hid (And.intro hHeld7.1 FA_7)
            clear hHeld7 FA_7
            go_wp2_with fail
            go_meet
            exact ⟨pA, rfl, rfl, rfl, HE⟩
    · skip
      go_simp
      have hb8 := Joins.below_alloc1 wx0 (.cells #[.int .i64 0, .int .i64 0, .int .i64 0, .int .i64 0] 75)
      have FA_8 := World.alloc_heap_new wx0 (.cells #[.int .i64 0, .int .i64 0, .int .i64 0, .int .i64 0] 75)
      have hlo8 := Nat.le_trans hlo0 hb8.size
      have hloA := hlo0
      have hHeld8S := lb_keep2 hHeld hb8
      generalize World.alloc wx0 (.cells #[.int .i64 0, .int .i64 0, .int .i64 0, .int .i64 0] 75) = wx8 at hb8 hlo8 hHeld8S FA_8 ⊢
      obtain ⟨pA, hpA⟩ : ∃ p, p = wx0.heap.size := ⟨_, rfl⟩
      rw [← hpA] at FA_8 hloA ⊢
      clear hpA
      refine hK.out _ _ hHeld8S (fun hHeld8 => ?_)
      clear hK K hHeld8S hb8 hlo0 
      try simp only [Act.put, List.setIfInBounds_toArray, List.set_cons_zero, List.set_cons_succ]
      clear hHeld
      refine wpAnyH_ready (rs := [2]) (by kernel_rfl) (by simp) ?_
      refine (AllReadyH.cons (o := { dst := some 12, op := Op.call { callee := Callee.value (Operand.func 61), args := #[Operand.tmp 10, Operand.tmp 11], argTypes := #[24, 3] }, type := 75, pos := "ref.go:24", after := #[{ on := 0, ground := Ground.data }, { on := 1, ground := Ground.data }], guard := none }) rfl (fun K hK => ?_) AllReadyH.nil)
      · skip
        go_simp
        refine (corners_any W H ao n cap Z HG.out u HU.out _ (lb_ints2 (by assumption))).mono ?_
        rw [HZ.out]
        rintro e wx9 ⟨rfl, hb9⟩
        try go_wp2_with fail
        have FA_9 := kq0 hb9 FA_8
        have hlo9 := Nat.le_trans hlo8 hb9.size
        have hHeld9S := lb_keep2 hHeld8 hb9
        refine hK.out _ _ hHeld9S (fun hHeld9 => ?_)
        clear hK K hHeld9S hb9 hlo8 FA_8
        try simp only [Act.put, List.setIfInBounds_toArray, List.set_cons_zero, List.set_cons_succ]
        clear hHeld8
        refine wpAnyH_ready (rs := [5]) (by kernel_rfl) (by simp) ?_
        refine (AllReadyH.cons (o := { dst := some 15, op := Op.call { callee := Callee.value (Operand.func 59), args := #[Operand.tmp 13, Operand.tmp 14], argTypes := #[24, 3] }, type := 3, pos := "ref.go:24", after := #[{ on := 3, ground := Ground.data }, { on := 4, ground := Ground.data }, { on := 2, ground := Ground.chain }], guard := none }) rfl (fun K hK => ?_) AllReadyH.nil)
        · skip
          go_simp
          refine (base_any W H ao n cap Z HG.out u HU.out _ (lb_ints2 (by assumption))).mono ?_
          rw [← HM.out]
          rintro e wx10 ⟨rfl, hb10⟩
          try go_wp2_with fail
          have FA_10 := kq0 hb10 FA_9
          have hlo10 := Nat.le_trans hlo9 hb10.size
          have hHeld10S := lb_keep2 hHeld9 hb10
          refine hK.out _ _ hHeld10S (fun hHeld10 => ?_)
          clear hK K hHeld10S hb10 hlo9 FA_9
          try simp only [Act.put, List.setIfInBounds_toArray, List.set_cons_zero, List.set_cons_succ]
          clear hHeld9
          refine wpAnyH_ready (rs := [7]) (by kernel_rfl) (by simp) ?_
          refine (AllReadyH.cons (o := { dst := none, op := Op.store 75 (Operand.tmp 5) (Operand.tmp 12), type := 0, pos := "ref.go:24", after := #[{ on := 6, ground := Ground.data }, { on := 2, ground := Ground.data }, { on := 5, ground := Ground.chain }, { on := 0, ground := Ground.phase }, { on := 1, ground := Ground.phase }, { on := 2, ground := Ground.phase }, { on := 3, ground := Ground.textOnly Departure.lateStores }, { on := 4, ground := Ground.textOnly Departure.lateStores }, { on := 5, ground := Ground.textOnly Departure.lateStoresUnsure }, { on := 6, ground := Ground.phase }], guard := none }) rfl (fun K hK => ?_) AllReadyH.nil)
          · skip
            obtain ⟨q0, q1, q2, q3, q4, q5, q6, q7, q8⟩ := bx_facts4 FA_10
            go_simp
            obtain ⟨wx11, hw11, FA_11, ho11, hlo11z, hb11⟩ := bx_put4 FA_10 (.int .i64 z0) (.int .i64 z1) (.int .i64 z2) (.int .i64 z3)
            rw [← hw11]
            have hlo11 := Nat.le_trans hlo10 (Nat.le_of_eq hlo11z.symm)
            have hHeld11S := lb_put2 HI.out hHeld10 (hb11 _ hloA)
            clear hw11 ho11 hlo11z q0 q1 q2 q3 q4 q5 q6 q7 q8
            refine hK.out _ _ hHeld11S (fun hHeld11 => ?_)
            clear hK K hHeld11S hb11 hlo10 FA_10
            try simp only [Act.put, List.setIfInBounds_toArray, List.set_cons_zero, List.set_cons_succ]
            clear hHeld10
            refine wpAnyH_take (i := 8) (oi := { dst := some 6, op := Op.assign (Operand.tmp 15), type := 3, pos := "ref.go:24", after := #[{ on := 5, ground := Ground.data }, { on := 7, ground := Ground.chain }, { on := 0, ground := Ground.phase }, { on := 1, ground := Ground.phase }, { on := 2, ground := Ground.phase }, { on := 3, ground := Ground.phase }, { on := 4, ground := Ground.phase }, { on := 5, ground := Ground.phase }, { on := 6, ground := Ground.phase }, { on := 7, ground := Ground.phase }], guard := none }) (v := ?_) rfl (by kernel_rfl) (by kernel_rfl) (by kernel_rfl) (fun _ _ _ h => h) (Or.inl ⟨by rfl, ?_⟩) (by assumption) ?_
            rotate_left
            · intro w hSw; (try dsimp only at hSw); go_simp; try (with_reducible rfl)
            try simp only [Act.put, List.setIfInBounds_toArray, List.set_cons_zero, List.set_cons_succ]
            refine wpAnyH_take (i := 9) (oi := { dst := some 7, op := Op.assign (Operand.const (Value.int IntKind.i64 0)), type := 3, pos := "ref.go:24", after := #[{ on := 8, ground := Ground.chain }, { on := 0, ground := Ground.phase }, { on := 1, ground := Ground.phase }, { on := 2, ground := Ground.phase }, { on := 3, ground := Ground.phase }, { on := 4, ground := Ground.phase }, { on := 5, ground := Ground.phase }, { on := 6, ground := Ground.phase }, { on := 7, ground := Ground.phase }, { on := 8, ground := Ground.phase }], guard := none }) (v := ?_) rfl (by kernel_rfl) (by kernel_rfl) (by kernel_rfl) (fun _ _ _ h => h) (Or.inl ⟨by rfl, ?_⟩) (by assumption) ?_
            rotate_left
            · intro w hSw; (try dsimp only at hSw); go_simp; try (with_reducible rfl)
            try simp only [Act.put, List.setIfInBounds_toArray, List.set_cons_zero, List.set_cons_succ]
            refine wpAnyH_done (by kernel_rfl) ?_ _
            have HE := hid (And.intro hHeld11.1 FA_11)
            clear hHeld11 FA_11
            go_wp2_with fail
            go_meet
            exact ⟨pA, rfl, rfl, rfl, HE⟩
  case rest =>
    obtain ⟨g, rfl, rfl, rfl, HV⟩ := hcut
    obtain ⟨x0, x1, x2, x3, _, _, _, _, _⟩ := bx_facts4 HV.out.2
    clear HL
    go_wp2_with fail
    go_loop [7, 8] (fun nv iv => ∃ k : Nat, k ≤ 4 ∧ iv = .int .i64 k ∧ nv = .int .i64 (slR p k) ∧ Hid (0 ≤ slR p k ∧ slR p k < 2 ^ k)) (fun _ iv => 4 - (intOf iv).toNat)
    case atStart => exact ⟨0, by omega, rfl, rfl, hid (by simp [slR])⟩
    case round =>
      obtain ⟨k, hk, rfl, rfl, hs⟩ := hrel
      by_cases hlt : k < 4
      · have e1 : slR p (k + 1) = if p k then slR p k + 2 ^ k else slR p k := rfl
        have HE1 := hid e1
        have hs' := hs.out
        clear e1 hs
        generalize slR p k = sk at HE1 hs' ⊢
        obtain ⟨hs1, hs2⟩ := hs'
        rcases (show k = 0 ∨ k = 1 ∨ k = 2 ∨ k = 3 by omega) with rfl | rfl | rfl | rfl
        · have e1 : slR p 1 = if m < z0 then sk + 1 else sk := by rw [HE1.out, PP.out.1]; simp
          have HE2 := hid e1
          clear e1
          by_cases hc : m < z0
          · go_wp2_with fail
            refine ⟨⟨1, by omega, rfl, congrArg (Value.int IntKind.i64) (by rw [HE2.out, if_pos hc]), hid (by rw [HE2.out, if_pos hc]; omega)⟩, by simp [intOf]⟩
          · go_wp2_with fail
            refine ⟨⟨1, by omega, rfl, congrArg (Value.int IntKind.i64) (by rw [HE2.out, if_neg hc]), hid (by rw [HE2.out, if_neg hc]; omega)⟩, by simp [intOf]⟩
        · have e1 : slR p 2 = if m < z1 then sk + 2 else sk := by rw [HE1.out, PP.out.2.1]; simp
          have HE2 := hid e1
          clear e1
          by_cases hc : m < z1
          · go_wp2_with fail
            refine ⟨⟨2, by omega, rfl, congrArg (Value.int IntKind.i64) (by rw [HE2.out, if_pos hc]), hid (by rw [HE2.out, if_pos hc]; omega)⟩, by simp [intOf]⟩
          · go_wp2_with fail
            refine ⟨⟨2, by omega, rfl, congrArg (Value.int IntKind.i64) (by rw [HE2.out, if_neg hc]), hid (by rw [HE2.out, if_neg hc]; omega)⟩, by simp [intOf]⟩
        · have e1 : slR p 3 = if m < z2 then sk + 4 else sk := by rw [HE1.out, PP.out.2.2.1]; simp
          have HE2 := hid e1
          clear e1
          by_cases hc : m < z2
          · go_wp2_with fail
            refine ⟨⟨3, by omega, rfl, congrArg (Value.int IntKind.i64) (by rw [HE2.out, if_pos hc]), hid (by rw [HE2.out, if_pos hc]; omega)⟩, by simp [intOf]⟩
          · go_wp2_with fail
            refine ⟨⟨3, by omega, rfl, congrArg (Value.int IntKind.i64) (by rw [HE2.out, if_neg hc]), hid (by rw [HE2.out, if_neg hc]; omega)⟩, by simp [intOf]⟩
        · have e1 : slR p 4 = if m < z3 then sk + 8 else sk := by rw [HE1.out, PP.out.2.2.2]; simp
          have HE2 := hid e1
          clear e1
          by_cases hc : m < z3
          · go_wp2_with fail
            refine ⟨⟨4, by omega, rfl, congrArg (Value.int IntKind.i64) (by rw [HE2.out, if_pos hc]), hid (by rw [HE2.out, if_pos hc]; omega)⟩, by simp [intOf]⟩
          · go_wp2_with fail
            refine ⟨⟨4, by omega, rfl, congrArg (Value.int IntKind.i64) (by rw [HE2.out, if_neg hc]), hid (by rw [HE2.out, if_neg hc]; omega)⟩, by simp [intOf]⟩
      · obtain rfl : k = 4 := by omega
        have hs' := hs.out
        clear hs
        generalize slR p 4 = s4 at HSL hs' ⊢
        obtain ⟨hs1, hs2⟩ := hs'
        go_wp2_with fail
        go_loop [9] (fun iv => ∃ k : Nat, k ≤ 4 ∧ iv = .int .i64 k ∧ Hid (∀ i, i < k → q i = false)) (fun iv => 4 - (intOf iv).toNat)
        case atStart => exact ⟨0, by omega, rfl, hid (fun i hi => by omega)⟩
        case round =>
          obtain ⟨k, hk, rfl, hk2⟩ := hrel
          by_cases hlt : k < 4
          · rcases (show k = 0 ∨ k = 1 ∨ k = 2 ∨ k = 3 by omega) with rfl | rfl | rfl | rfl
            · by_cases hc : m + 1 < z0
              · go_wp2_with fail
                go_ret
                exact ⟨ret_int (by rw [HSL.out]; have hq : q 0 = true := by rw [QQ.out.1]; exact decide_eq_true hc
                                   simp [hq]), HV.out.1.below⟩
              · go_wp2_with fail
                refine ⟨⟨1, by omega, rfl, hid (fun i hi => ?_)⟩, by simp [intOf]⟩
                by_cases h : i < 0
                · exact hk2.out i h
                · obtain rfl : i = 0 := by omega
                  rw [QQ.out.1]; exact decide_eq_false hc
            · by_cases hc : m + 1 < z1
              · go_wp2_with fail
                go_ret
                exact ⟨ret_int (by rw [HSL.out]; have hq : q 1 = true := by rw [QQ.out.2.1]; exact decide_eq_true hc
                                   simp [hq]), HV.out.1.below⟩
              · go_wp2_with fail
                refine ⟨⟨2, by omega, rfl, hid (fun i hi => ?_)⟩, by simp [intOf]⟩
                by_cases h : i < 1
                · exact hk2.out i h
                · obtain rfl : i = 1 := by omega
                  rw [QQ.out.2.1]; exact decide_eq_false hc
            · by_cases hc : m + 1 < z2
              · go_wp2_with fail
                go_ret
                exact ⟨ret_int (by rw [HSL.out]; have hq : q 2 = true := by rw [QQ.out.2.2.1]; exact decide_eq_true hc
                                   simp [hq]), HV.out.1.below⟩
              · go_wp2_with fail
                refine ⟨⟨3, by omega, rfl, hid (fun i hi => ?_)⟩, by simp [intOf]⟩
                by_cases h : i < 2
                · exact hk2.out i h
                · obtain rfl : i = 2 := by omega
                  rw [QQ.out.2.2.1]; exact decide_eq_false hc
            · by_cases hc : m + 1 < z3
              · go_wp2_with fail
                go_ret
                exact ⟨ret_int (by rw [HSL.out]; have hq : q 3 = true := by rw [QQ.out.2.2.2]; exact decide_eq_true hc
                                   simp [hq]), HV.out.1.below⟩
              · go_wp2_with fail
                refine ⟨⟨4, by omega, rfl, hid (fun i hi => ?_)⟩, by simp [intOf]⟩
                by_cases h : i < 3
                · exact hk2.out i h
                · obtain rfl : i = 3 := by omega
                  rw [QQ.out.2.2.2]; exact decide_eq_false hc
          · obtain rfl : k = 4 := by omega
            go_wp2_with fail
            go_ret
            exact ⟨ret_int (by rw [HSL.out, hk2.out 0 (by omega), hk2.out 1 (by omega), hk2.out 2 (by omega), hk2.out 3 (by omega)]; simp), HV.out.1.below⟩
end Go.Proofs.Ytpohhcmkkjcelaa
