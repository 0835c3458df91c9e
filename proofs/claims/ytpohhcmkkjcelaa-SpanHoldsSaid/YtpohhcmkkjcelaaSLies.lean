/-
  The walk of lies of the program: do the heights let a span lie there?
-/
import Derived.Test.YtpohhcmkkjcelaaSCross
import Derived.Test.YtpohhcmkkjcelaaSRound
import Derived.Deep.DeepCutAuto
namespace Go.Proofs.Ytpohhcmkkjcelaa
open Go.RowKit Go.Shelf
attribute [local go_sem] Oper.semAt_some wide_fn wide_depth

theorem kp0 {wX w2 : World} {k : Nat} {o : Obj} (hb : Below wX.heap.size wX w2) (f : wX.heap[k]? = some o) : w2.heap[k]? = some o := (hb.block k (heap_lt f)).trans f
theorem kp1 {wX w2 : World} {k : Nat} {o o' : Obj} (hb : Below (wX.alloc o').heap.size (wX.alloc o') w2) (f : wX.heap[k]? = some o) : w2.heap[k]? = some o :=
  kp0 hb ((Below.heap_alloc _ _ _ (heap_lt f)).trans f)
theorem nw1 {wX w2 : World} {o : Obj} (hb : Below (wX.alloc o).heap.size (wX.alloc o) w2) : w2.heap[wX.heap.size]? = some o := kp0 hb (World.alloc_heap_new wX o)
theorem nw2 {wX w2 : World} {o o' : Obj} (hb : Below ((wX.alloc o).alloc o').heap.size ((wX.alloc o).alloc o') w2) : w2.heap[wX.heap.size]? = some o ∧ w2.heap[wX.heap.size + 1]? = some o' :=
  ⟨kp1 hb (World.alloc_heap_new wX o), by have := kp0 hb (World.alloc_heap_new (wX.alloc o) o'); rwa [World.size_alloc] at this⟩
/-- What a box holds, for the walk. -/
theorem bx_facts2 {w : World} {k : Nat} {a b : Value} {t : TypeId} (h : w.heap[k]? = some (.cells #[a, b] t (0, 0))) :
    w.cell? ⟨k, 0, none⟩ = some a ∧ w.cell? ⟨k, 1, none⟩ = some b ∧ w.frozen? ⟨k, 0, none⟩ = false ∧ w.frozen? ⟨k, 1, none⟩ = false ∧ k < w.heap.size :=
  ⟨cell_of_row w k 0 _ _ _ h, cell_of_row w k 1 _ _ _ h, frozen_of_row w k 0 _ _ h, frozen_of_row w k 1 _ _ h, heap_lt h⟩
/-- A box is filled. -/
theorem bx_put2 {w : World} {p : Nat} {x y : Value} {t : TypeId} (h : w.heap[p]? = some (.cells #[x, y] t (0, 0))) (a b : Value) :
    ∃ w', w' = (w.setCell ⟨p, 0, none⟩ a).setCell ⟨p, 1, none⟩ b ∧ w'.heap[p]? = some (.cells #[a, b] t (0, 0)) ∧ (∀ j, j ≠ p → w'.heap[j]? = w.heap[j]?) ∧ w'.heap.size = w.heap.size ∧ ∀ B, B ≤ p → Below B w w' :=
  ⟨_, rfl, set2 h a b, fun j hj => (Below.heap_setCell _ _ _ j hj).trans (Below.heap_setCell _ _ _ j hj), by simp [World.setCell], fun B hB => ((Below.refl _ w).setCell (p := ⟨p, 0, none⟩) hB _).setCell (p := ⟨p, 1, none⟩) hB _⟩
theorem mb_put {W H : Int} {ao : Option Addr} {n cap : Nat} {Z : Nat → Int} {k a b u : Int} {w wr w' : World} {p : Prop} (hI : Ints w ao n Z) (h : MB W H ao n cap Z k a b u w wr ∧ p) (hb : Below (w.heap.size + 1 + 1 + 1) wr w') :
    MB W H ao n cap Z k a b u w w' ∧ w'.cell? ⟨w.heap.size, 0, none⟩ = some (.int .i64 W) ∧ w'.cell? ⟨w.heap.size, 1, none⟩ = some (.int .i64 H) ∧ w'.cell? ⟨w.heap.size, 2, none⟩ = some (.slice ao n cap) ∧ w'.cell? ⟨w.heap.size + 1, 0, none⟩ = some (.int .i64 k) ∧ w'.cell? ⟨w.heap.size + 1, 1, none⟩ = some (.int .i64 a) ∧ w'.cell? ⟨w.heap.size + 1, 2, none⟩ = some (.int .i64 b) ∧ w'.cell? ⟨w.heap.size + 1, 3, none⟩ = some (.int .i64 u) := by
  have hm := h.1
  have k3 := hm.below.trans (hb.mono (by omega))
  have q : MB W H ao n cap Z k a b u w w' := ⟨k3, Nat.lt_of_lt_of_le hm.size hb.size, (hb.cell (p := ⟨w.heap.size, 0, none⟩) (by show w.heap.size < _; omega)).trans hm.c0, (hb.cell (p := ⟨w.heap.size, 1, none⟩) (by show w.heap.size < _; omega)).trans hm.c1, (hb.cell (p := ⟨w.heap.size, 2, none⟩) (by show w.heap.size < _; omega)).trans hm.c2,
    (hb.cell (p := ⟨w.heap.size + 1, 0, none⟩) (by show w.heap.size + 1 < _; omega)).trans hm.d0, (hb.cell (p := ⟨w.heap.size + 1, 1, none⟩) (by show w.heap.size + 1 < _; omega)).trans hm.d1, (hb.cell (p := ⟨w.heap.size + 1, 2, none⟩) (by show w.heap.size + 1 < _; omega)).trans hm.d2, (hb.cell (p := ⟨w.heap.size + 1, 3, none⟩) (by show w.heap.size + 1 < _; omega)).trans hm.d3, hI.stays k3⟩
  exact ⟨q, q.c0, q.c1, q.c2, q.d0, q.d1, q.d2, q.d3⟩

/-- The memory of lies: its boxes, its result's cell, what it has looked at. -/
structure LR (p q : Nat) (sa ma sb mb : Int) (W H : Int) (ao : Option Addr) (n cap : Nat) (Z : Nat → Int) (k a b u : Int) (w wr : World) : Prop where
  bx : MB W H ao n cap Z k a b u w wr
  rs : wr.heap[w.heap.size + 1 + 1]? = some (.cells #[.bool false] 4 (0, 0))
  hp : wr.heap[p]? = some (.cells #[.int .i64 sa, .int .i64 ma] 88 (0, 0))
  hq : wr.heap[q]? = some (.cells #[.int .i64 sb, .int .i64 mb] 88 (0, 0))
  lp : w.heap.size + 1 + 1 < p
  lq : w.heap.size + 1 + 1 < q
theorem LR.stays {p q : Nat} {sa ma sb mb : Int} {W H : Int} {ao : Option Addr} {n cap : Nat} {Z : Nat → Int} {k a b u : Int} {w wr w' : World} (h : LR p q sa ma sb mb W H ao n cap Z k a b u w wr) (j : Below wr.heap.size wr w') : LR p q sa ma sb mb W H ao n cap Z k a b u w w' :=
  ⟨h.bx.stays j, kp0 j h.rs, kp0 j h.hp, kp0 j h.hq, h.lp, h.lq⟩
/-- .. and in a round. -/
structure LG (p q : Nat) (sa ma sb mb : Int) (W H : Int) (ao : Option Addr) (n cap : Nat) (Z : Nat → Int) (k a b u : Int) (g : Nat) (st mt : Int) (w W' wr : World) : Prop where
  lr : LR p q sa ma sb mb W H ao n cap Z k a b u w wr
  bel : Below W'.heap.size W' wr
  hg : wr.heap[g]? = some (.cells #[.int .i64 st, .int .i64 mt] 88 (0, 0))
theorem lg_keep {p q : Nat} {sa ma sb mb : Int} {W H : Int} {ao : Option Addr} {n cap : Nat} {Z : Nat → Int} {k a b u : Int} {g : Nat} {st mt : Int} {w W' wr w' : World} {P : Prop} (h : LG p q sa ma sb mb W H ao n cap Z k a b u g st mt w W' wr ∧ P) (hb : Below wr.heap.size wr w') :
    LG p q sa ma sb mb W H ao n cap Z k a b u g st mt w W' w' ∧ w'.cell? ⟨w.heap.size + 1, 0, none⟩ = some (.int .i64 k) ∧ w'.cell? ⟨p, 1, none⟩ = some (.int .i64 ma) ∧ w'.cell? ⟨g, 0, none⟩ = some (.int .i64 st) ∧ w'.cell? ⟨g, 1, none⟩ = some (.int .i64 mt) := by
  have hl := h.1.lr.stays hb
  have hg := kp0 hb h.1.hg
  exact ⟨⟨hl, h.1.bel.trans (hb.mono h.1.bel.size), hg⟩, hl.bx.d0, cell_of_row _ _ 1 _ _ _ hl.hp, cell_of_row _ _ 0 _ _ _ hg, cell_of_row _ _ 1 _ _ _ hg⟩
theorem lg_of {p q : Nat} {sa ma sb mb : Int} {W H : Int} {ao : Option Addr} {n cap : Nat} {Z : Nat → Int} {k a b u : Int} {g : Nat} {st mt : Int} {w W' wr : World} {P : Prop} (h : LG p q sa ma sb mb W H ao n cap Z k a b u g st mt w W' wr ∧ P) : LG p q sa ma sb mb W H ao n cap Z k a b u g st mt w W' wr := h.1

set_option maxRecDepth 100000 in
set_option maxHeartbeats 12800000 in
theorem lies_any {W H : Nat} (ao : Option Addr) (n cap : Nat) (Z : Nat → Int) (hg : Good W H n Z) (k u : Int) (hk : 0 ≤ k ∧ k ≤ 1) (a b : Nat) (ha : a < W * H) (hb0 : b < W * H) (hl : Line W a b) (r : Bool) (hr : r = true ↔ Lies W Z k a b) (w : World) (hI : Ints w ao n Z) :
    Calls Try.prog 68 #[lv W H (.slice ao n cap), sv k a b u] w fun e w' => e = .returned (.bool r) ∧ Below w.heap.size w w' := by
  obtain ⟨hW1, hW2, hH1, hH2⟩ := hg.side
  have hms := mul_small hW2 hH2
  have HG := hid hg
  have HA := hid ha
  have HB0 := hid hb0
  have HR := hid hr
  have HI := hid hI
  have HM := hid (mb_start (W := W) (H := H) (cap := cap) (k := k) (a := a) (b := b) (u := u) hI)
  obtain ⟨sa, hsa⟩ : ∃ q, q = slope W Z a := ⟨_, rfl⟩
  obtain ⟨ma, hma⟩ : ∃ q, q = base W Z a := ⟨_, rfl⟩
  obtain ⟨sb, hsb⟩ : ∃ q, q = slope W Z b := ⟨_, rfl⟩
  obtain ⟨mb, hmb⟩ : ∃ q, q = base W Z b := ⟨_, rfl⟩
  have HSA := hid hsa
  have HMA := hid hma
  have HSB := hid hsb
  have HMB := hid hmb
  clear hg hr hI hsa hma hsb hmb
  refine (callsIn_wide (n := 9)).1 ?_
  refine callsIn_of_wp_marks Try.func68 rfl trivial ?_ rfl
  simp only [Try.ntmps68, List.size_toArray, List.length_cons, List.length_nil, Nat.reduceAdd, Nat.reduceSub, Array.replicate_succ, Array.replicate_zero, List.push_toArray, List.append_toArray, List.nil_append, List.cons_append]
  refine wpIn_wide.2 ?_
  go_upto_region 1 with fail
  have HM3 := hid (HM.out.stays (Joins.below_alloc1 _ (.cells #[.bool false] 4)))
  have FR : (((w.alloc (.cells #[.int .i64 W, .int .i64 H, .slice ao n cap] 24)).alloc (.cells #[.int .i64 k, .int .i64 a, .int .i64 b, .int .i64 u] 26)).alloc (.cells #[.bool false] 4)).heap[w.heap.size + 1 + 1]? = some (.cells #[.bool false] 4 (0, 0)) := by
    show (((w.heap.push _).push _).push _)[_]? = _
    rw [Array.getElem?_push, if_pos (by simp)]
  have hz3 : w.heap.size + 1 + 1 < (((w.alloc (.cells #[.int .i64 W, .int .i64 H, .slice ao n cap] 24)).alloc (.cells #[.int .i64 k, .int .i64 a, .int .i64 b, .int .i64 u] 26)).alloc (.cells #[.bool false] 4)).heap.size := by simp
  generalize World.alloc (World.alloc (World.alloc w _) _) _ = w3 at HM3 FR hz3 ⊢
  clear HM
  go_cut [5, 6] from 9 to 16 (fun s5 s6 wx => ∃ p q : Nat, s5 = .pointer (some ⟨p, 0, none⟩) ∧ s6 = .pointer (some ⟨q, 0, none⟩) ∧ Hid (LR p q sa ma sb mb W H ao n cap Z k a b u w wx))
  case first =>
    refine wp_region_noPanic ?_
    refine wp_region_held_drew (S := (fun wr => MB W H ao n cap Z k a b u w wr ∧ wr.cell? ⟨w.heap.size, 0, none⟩ = some (.int .i64 W) ∧ wr.cell? ⟨w.heap.size, 1, none⟩ = some (.int .i64 H) ∧ wr.cell? ⟨w.heap.size, 2, none⟩ = some (.slice ao n cap) ∧ wr.cell? ⟨w.heap.size + 1, 0, none⟩ = some (.int .i64 k) ∧ wr.cell? ⟨w.heap.size + 1, 1, none⟩ = some (.int .i64 a) ∧ wr.cell? ⟨w.heap.size + 1, 2, none⟩ = some (.int .i64 b) ∧ wr.cell? ⟨w.heap.size + 1, 3, none⟩ = some (.int .i64 u))) (by kernel_rfl) (mb_keep (And.intro HM3.out trivial) ((Below.refl _ _).drew)) (fun hHeld => ?_)
    have FR' : (w3.drew).heap[_]? = some _ := FR
    have hlo0 : w.heap.size + 1 + 1 + 1 ≤ (w3.drew).heap.size := hz3
    generalize w3.drew = wx0 at hHeld hlo0 FR' ⊢
    refine wpAnyH_take (i := 0) (oi := { dst := some 9, op := Op.load 24 (Operand.tmp 2), type := 24, pos := "span.go:69", after := #[], guard := none }) (v := ?_) rfl (by kernel_rfl) (by kernel_rfl) (by kernel_rfl) (fun _ _ _ h => h) (Or.inl ⟨by rfl, ?_⟩) (by assumption) ?_
    rotate_left
    · intro w hSw; (try dsimp only at hSw); go_simp; try (with_reducible rfl)
    try simp only [Act.put, List.setIfInBounds_toArray, List.set_cons_zero, List.set_cons_succ]
    refine wpAnyH_take (i := 1) (oi := { dst := some 10, op := Op.fieldAddr 26 (Operand.tmp 3) 1, type := 0, pos := "span.go:69", after := #[], guard := none }) (v := ?_) rfl (by kernel_rfl) (by kernel_rfl) (by kernel_rfl) (fun _ _ _ h => h) (Or.inl ⟨by rfl, ?_⟩) (by assumption) ?_
    rotate_left
    · intro w hSw; (try dsimp only at hSw); go_simp; try (with_reducible rfl)
    try simp only [Act.put, List.setIfInBounds_toArray, List.set_cons_zero, List.set_cons_succ]
    refine wpAnyH_take (i := 2) (oi := { dst := some 11, op := Op.load 3 (Operand.tmp 10), type := 3, pos := "span.go:69", after := #[{ on := 1, ground := Ground.data }], guard := none }) (v := ?_) rfl (by kernel_rfl) (by kernel_rfl) (by kernel_rfl) (fun _ _ _ h => h) (Or.inl ⟨by rfl, ?_⟩) (by assumption) ?_
    rotate_left
    · intro w hSw; (try dsimp only at hSw); go_simp; try (with_reducible rfl)
    try simp only [Act.put, List.setIfInBounds_toArray, List.set_cons_zero, List.set_cons_succ]
    refine wpAnyH_take (i := 4) (oi := { dst := some 13, op := Op.load 24 (Operand.tmp 2), type := 24, pos := "span.go:69", after := #[], guard := none }) (v := ?_) rfl (by kernel_rfl) (by kernel_rfl) (by kernel_rfl) (fun _ _ _ h => h) (Or.inl ⟨by rfl, ?_⟩) (by assumption) ?_
    rotate_left
    · intro w hSw; (try dsimp only at hSw); go_simp; try (with_reducible rfl)
    try simp only [Act.put, List.setIfInBounds_toArray, List.set_cons_zero, List.set_cons_succ]
    refine wpAnyH_take (i := 5) (oi := { dst := some 14, op := Op.fieldAddr 26 (Operand.tmp 3) 2, type := 0, pos := "span.go:69", after := #[], guard := none }) (v := ?_) rfl (by kernel_rfl) (by kernel_rfl) (by kernel_rfl) (fun _ _ _ h => h) (Or.inl ⟨by rfl, ?_⟩) (by assumption) ?_
    rotate_left
    · intro w hSw; (try dsimp only at hSw); go_simp; try (with_reducible rfl)
    try simp only [Act.put, List.setIfInBounds_toArray, List.set_cons_zero, List.set_cons_succ]
    refine wpAnyH_take (i := 6) (oi := { dst := some 15, op := Op.load 3 (Operand.tmp 14), type := 3, pos := "span.go:69", after := #[{ on := 5, ground := Ground.data }], guard := none }) (v := ?_) rfl (by kernel_rfl) (by kernel_rfl) (by kernel_rfl) (fun _ _ _ h => h) (Or.inl ⟨by rfl, ?_⟩) (by assumption) ?_
    rotate_left
    · intro w hSw; (try dsimp only at hSw); go_simp; try (with_reducible rfl)
    try simp only [Act.put, List.setIfInBounds_toArray, List.set_cons_zero, List.set_cons_succ]
    refine wpAnyH_ready (rs := [3, 8, 9]) (by kernel_rfl) (by simp) ?_
    refine (AllReadyH.cons (o := { dst := some 12, op := Op.call { callee := Callee.value (Operand.func 84), args := #[Operand.tmp 9, Operand.tmp 11], argTypes := #[24, 3] }, type := 88, pos := "span.go:69", after := #[{ on := 0, ground := Ground.data }, { on := 2, ground := Ground.data }], guard := none }) rfl (fun K hK => ?_) (AllReadyH.cons (o := { dst := some 5, op := Op.alloc 88, type := 0, pos := "span.go:69", after := #[], guard := none }) rfl (fun K hK => ?_) (AllReadyH.cons (o := { dst := some 6, op := Op.alloc 88, type := 0, pos := "span.go:69", after := #[], guard := none }) rfl (fun K hK => ?_) AllReadyH.nil)))
    · skip
      go_simp
      refine (look_any W H ao n cap Z HG.out a HA.out _ (mb_ints (by assumption))).mono ?_
      rw [← HSA.out, ← HMA.out]
      rintro e wx1 ⟨rfl, hb1⟩
      try go_wp2_with fail
      have FR_1 := kp0 hb1 FR'
      have hlo1 := Nat.le_trans hlo0 hb1.size
      have hHeld1S := mb_keep hHeld hb1
      refine hK.out _ _ hHeld1S (fun hHeld1 => ?_)
      clear hK K hHeld1S hb1 hlo0 FR'
      try simp only [Act.put, List.setIfInBounds_toArray, List.set_cons_zero, List.set_cons_succ]
      clear hHeld
      refine wpAnyH_ready (rs := [7, 8, 9]) (by kernel_rfl) (by simp) ?_
      refine (AllReadyH.cons (o := { dst := some 16, op := Op.call { callee := Callee.value (Operand.func 84), args := #[Operand.tmp 13, Operand.tmp 15], argTypes := #[24, 3] }, type := 88, pos := "span.go:69", after := #[{ on := 4, ground := Ground.data }, { on := 6, ground := Ground.data }, { on := 3, ground := Ground.chain }], guard := none }) rfl (fun K hK => ?_) (AllReadyH.cons (o := { dst := some 5, op := Op.alloc 88, type := 0, pos := "span.go:69", after := #[], guard := none }) rfl (fun K hK => ?_) (AllReadyH.cons (o := { dst := some 6, op := Op.alloc 88, type := 0, pos := "span.go:69", after := #[], guard := none }) rfl (fun K hK => ?_) AllReadyH.nil)))
      · skip
        go_simp
        refine (look_any W H ao n cap Z HG.out b HB0.out _ (mb_ints (by assumption))).mono ?_
        rw [← HSB.out, ← HMB.out]
        rintro e wx2 ⟨rfl, hb2⟩
        try go_wp2_with fail
        have FR_2 := kp0 hb2 FR_1
        have hlo2 := Nat.le_trans hlo1 hb2.size
        have hHeld2S := mb_keep hHeld1 hb2
        refine hK.out _ _ hHeld2S (fun hHeld2 => ?_)
        clear hK K hHeld2S hb2 hlo1 FR_1
        try simp only [Act.put, List.setIfInBounds_toArray, List.set_cons_zero, List.set_cons_succ]
        clear hHeld1
        refine wpAnyH_ready (rs := [8, 9]) (by kernel_rfl) (by simp) ?_
        refine (AllReadyH.cons (o := { dst := some 5, op := Op.alloc 88, type := 0, pos := "span.go:69", after := #[], guard := none }) rfl (fun K hK => ?_) (AllReadyH.cons (o := { dst := some 6, op := Op.alloc 88, type := 0, pos := "span.go:69", after := #[], guard := none }) rfl (fun K hK => ?_) AllReadyH.nil))
        · skip
          go_simp
          have hb3 := Joins.below_alloc1 wx2 (.cells #[.int .i64 0, .int .i64 0] 88)
          have FA_3 := World.alloc_heap_new wx2 (.cells #[.int .i64 0, .int .i64 0] 88)
          have FR_3 := kp0 hb3 FR_2
          have hlo3 := Nat.le_trans hlo2 hb3.size
          have hloA := hlo2
          have hHeld3S := mb_keep hHeld2 hb3
          generalize World.alloc wx2 (.cells #[.int .i64 0, .int .i64 0] 88) = wx3 at hb3 hlo3 hHeld3S FA_3 FR_3 ⊢
          obtain ⟨pA, hpA⟩ : ∃ p, p = wx2.heap.size := ⟨_, rfl⟩
          rw [← hpA] at FA_3 hloA ⊢
          clear hpA
          refine hK.out _ _ hHeld3S (fun hHeld3 => ?_)
          clear hK K hHeld3S hb3 hlo2 FR_2
          try simp only [Act.put, List.setIfInBounds_toArray, List.set_cons_zero, List.set_cons_succ]
          clear hHeld2
          refine wpAnyH_ready (rs := [9]) (by kernel_rfl) (by simp) ?_
          refine (AllReadyH.cons (o := { dst := some 6, op := Op.alloc 88, type := 0, pos := "span.go:69", after := #[], guard := none }) rfl (fun K hK => ?_) AllReadyH.nil)
          · skip
            go_simp
            have hb4 := Joins.below_alloc1 wx3 (.cells #[.int .i64 0, .int .i64 0] 88)
            have FB_4 := World.alloc_heap_new wx3 (.cells #[.int .i64 0, .int .i64 0] 88)
            have hnAB := Nat.ne_of_lt (heap_lt FA_3)
            have FA_4 := kp0 hb4 FA_3
            have FR_4 := kp0 hb4 FR_3
            have hlo4 := Nat.le_trans hlo3 hb4.size
            have hloB := hlo3
            have hHeld4S := mb_keep hHeld3 hb4
            generalize World.alloc wx3 (.cells #[.int .i64 0, .int .i64 0] 88) = wx4 at hb4 hlo4 hHeld4S FB_4 FA_4 FR_4 ⊢
            obtain ⟨pB, hpB⟩ : ∃ p, p = wx3.heap.size := ⟨_, rfl⟩
            rw [← hpB] at FB_4 hloB hnAB ⊢
            clear hpB
            refine hK.out _ _ hHeld4S (fun hHeld4 => ?_)
            clear hK K hHeld4S hb4 hlo3 FA_3 FR_3
            try simp only [Act.put, List.setIfInBounds_toArray, List.set_cons_zero, List.set_cons_succ]
            clear hHeld3
            refine wpAnyH_ready (rs := [10]) (by kernel_rfl) (by simp) ?_
            refine (AllReadyH.cons (o := { dst := none, op := Op.store 88 (Operand.tmp 5) (Operand.tmp 12), type := 0, pos := "span.go:69", after := #[{ on := 8, ground := Ground.data }, { on := 3, ground := Ground.data }, { on := 7, ground := Ground.chain }, { on := 0, ground := Ground.phase }, { on := 1, ground := Ground.phase }, { on := 2, ground := Ground.phase }, { on := 3, ground := Ground.phase }, { on := 4, ground := Ground.textOnly Departure.lateStores }, { on := 5, ground := Ground.textOnly Departure.lateStores }, { on := 6, ground := Ground.textOnly Departure.lateStores }, { on := 7, ground := Ground.textOnly Departure.lateStoresUnsure }, { on := 8, ground := Ground.phase }, { on := 9, ground := Ground.phase }], guard := none }) rfl (fun K hK => ?_) AllReadyH.nil)
            · skip
              obtain ⟨q0, q1, q2, q3, q4⟩ := bx_facts2 FA_4
              go_simp
              obtain ⟨wx5, hw5, FA_5, ho5, hlo5z, hb5⟩ := bx_put2 FA_4 (.int .i64 sa) (.int .i64 ma)
              rw [← hw5]
              have FB_5 := (ho5 _ (by first | assumption | (exact Ne.symm (by assumption)) | omega)).trans FB_4
              have FR_5 := (ho5 _ (by first | assumption | (exact Ne.symm (by assumption)) | omega)).trans FR_4
              have hlo5 := Nat.le_trans hlo4 (Nat.le_of_eq hlo5z.symm)
              have hHeld5S := mb_put HI.out hHeld4 (hb5 _ hloA)
              clear hw5 ho5 hlo5z q0 q1 q2 q3 q4
              refine hK.out _ _ hHeld5S (fun hHeld5 => ?_)
              clear hK K hHeld5S hb5 hlo4 FB_4 FA_4 FR_4
              try simp only [Act.put, List.setIfInBounds_toArray, List.set_cons_zero, List.set_cons_succ]
              clear hHeld4
              refine wpAnyH_ready (rs := [11]) (by kernel_rfl) (by simp) ?_
              refine (AllReadyH.cons (o := { dst := none, op := Op.store 88 (Operand.tmp 6) (Operand.tmp 16), type := 0, pos := "span.go:69", after := #[{ on := 9, ground := Ground.data }, { on := 7, ground := Ground.data }, { on := 10, ground := Ground.chain }, { on := 0, ground := Ground.phase }, { on := 1, ground := Ground.phase }, { on := 2, ground := Ground.phase }, { on := 3, ground := Ground.phase }, { on := 4, ground := Ground.phase }, { on := 5, ground := Ground.phase }, { on := 6, ground := Ground.phase }, { on := 7, ground := Ground.phase }, { on := 8, ground := Ground.phase }, { on := 9, ground := Ground.phase }, { on := 10, ground := Ground.phase }], guard := none }) rfl (fun K hK => ?_) AllReadyH.nil)
              · skip
                obtain ⟨q0, q1, q2, q3, q4⟩ := bx_facts2 FB_5
                go_simp
                obtain ⟨wx6, hw6, FB_6, ho6, hlo6z, hb6⟩ := bx_put2 FB_5 (.int .i64 sb) (.int .i64 mb)
                rw [← hw6]
                have FA_6 := (ho6 _ (by first | assumption | (exact Ne.symm (by assumption)) | omega)).trans FA_5
                have FR_6 := (ho6 _ (by first | assumption | (exact Ne.symm (by assumption)) | omega)).trans FR_5
                have hlo6 := Nat.le_trans hlo5 (Nat.le_of_eq hlo6z.symm)
                have hHeld6S := mb_put HI.out hHeld5 (hb6 _ hloB)
                clear hw6 ho6 hlo6z q0 q1 q2 q3 q4
                refine hK.out _ _ hHeld6S (fun hHeld6 => ?_)
                clear hK K hHeld6S hb6 hlo5 FA_5 FB_5 FR_5
                try simp only [Act.put, List.setIfInBounds_toArray, List.set_cons_zero, List.set_cons_succ]
                clear hHeld5
                refine wpAnyH_done (by kernel_rfl) ?_ _
                refine NoPanic.normal ?_
                go_wp2_with fail
                go_meet
                exact ⟨pA, pB, rfl, rfl, hid ⟨mb_of hHeld6, FR_6, FA_6, FB_6, by omega, by omega⟩⟩
        · skip
          go_simp
          have hb7 := Joins.below_alloc1 wx2 (.cells #[.int .i64 0, .int .i64 0] 88)
          have FB_7 := World.alloc_heap_new wx2 (.cells #[.int .i64 0, .int .i64 0] 88)
          have FR_7 := kp0 hb7 FR_2
          have hlo7 := Nat.le_trans hlo2 hb7.size
          have hloB := hlo2
          have hHeld7S := mb_keep hHeld2 hb7
          generalize World.alloc wx2 (.cells #[.int .i64 0, .int .i64 0] 88) = wx7 at hb7 hlo7 hHeld7S FB_7 FR_7 ⊢
          obtain ⟨pB, hpB⟩ : ∃ p, p = wx2.heap.size := ⟨_, rfl⟩
          rw [← hpB] at FB_7 hloB ⊢
          clear hpB
          refine hK.out _ _ hHeld7S (fun hHeld7 => ?_)
          clear hK K hHeld7S hb7 hlo2 FR_2
          try simp only [Act.put, List.setIfInBounds_toArray, List.set_cons_zero, List.set_cons_succ]
          clear hHeld2
          refine wpAnyH_ready (rs := [8]) (by kernel_rfl) (by simp) ?_
          refine (AllReadyH.cons (o := { dst := some 5, op := Op.alloc 88, type := 0, pos := "span.go:69", after := #[], guard := none }) rfl (fun K hK => ?_) AllReadyH.nil)
          · skip
            go_simp
            have hb8 := Joins.below_alloc1 wx7 (.cells #[.int .i64 0, .int .i64 0] 88)
            have FA_8 := World.alloc_heap_new wx7 (.cells #[.int .i64 0, .int .i64 0] 88)
            have hnBA := Nat.ne_of_lt (heap_lt FB_7)
            have FB_8 := kp0 hb8 FB_7
            have FR_8 := kp0 hb8 FR_7
            have hlo8 := Nat.le_trans hlo7 hb8.size
            have hloA := hlo7
            have hHeld8S := mb_keep hHeld7 hb8
            generalize World.alloc wx7 (.cells #[.int .i64 0, .int .i64 0] 88) = wx8 at hb8 hlo8 hHeld8S FA_8 FB_8 FR_8 ⊢
            obtain ⟨pA, hpA⟩ : ∃ p, p = wx7.heap.size := ⟨_, rfl⟩
            rw [← hpA] at FA_8 hloA hnBA ⊢
            clear hpA
            refine hK.out _ _ hHeld8S (fun hHeld8 => ?_)
            clear hK K hHeld8S hb8 hlo7 FB_7 FR_7
            try simp only [Act.put, List.setIfInBounds_toArray, List.set_cons_zero, List.set_cons_succ]
            clear hHeld7
            refine wpAnyH_ready (rs := [10]) (by kernel_rfl) (by simp) ?_
            refine (AllReadyH.cons (o := { dst := none, op := Op.store 88 (Operand.tmp 5) (Operand.tmp 12), type := 0, pos := "span.go:69", after := #[{ on := 8, ground := Ground.data }, { on := 3, ground := Ground.data }, { on := 7, ground := Ground.chain }, { on := 0, ground := Ground.phase }, { on := 1, ground := Ground.phase }, { on := 2, ground := Ground.phase }, { on := 3, ground := Ground.phase }, { on := 4, ground := Ground.textOnly Departure.lateStores }, { on := 5, ground := Ground.textOnly Departure.lateStores }, { on := 6, ground := Ground.textOnly Departure.lateStores }, { on := 7, ground := Ground.textOnly Departure.lateStoresUnsure }, { on := 8, ground := Ground.phase }, { on := 9, ground := Ground.phase }], guard := none }) rfl (fun K hK => ?_) AllReadyH.nil)
            · skip
              obtain ⟨q0, q1, q2, q3, q4⟩ := bx_facts2 FA_8
              go_simp
              obtain ⟨wx9, hw9, FA_9, ho9, hlo9z, hb9⟩ := bx_put2 FA_8 (.int .i64 sa) (.int .i64 ma)
              rw [← hw9]
              have FB_9 := (ho9 _ (by first | assumption | (exact Ne.symm (by assumption)) | omega)).trans FB_8
              have FR_9 := (ho9 _ (by first | assumption | (exact Ne.symm (by assumption)) | omega)).trans FR_8
              have hlo9 := Nat.le_trans hlo8 (Nat.le_of_eq hlo9z.symm)
              have hHeld9S := mb_put HI.out hHeld8 (hb9 _ hloA)
              clear hw9 ho9 hlo9z q0 q1 q2 q3 q4
              refine hK.out _ _ hHeld9S (fun hHeld9 => ?_)
              clear hK K hHeld9S hb9 hlo8 FA_8 FB_8 FR_8
              try simp only [Act.put, List.setIfInBounds_toArray, List.set_cons_zero, List.set_cons_succ]
              clear hHeld8
              refine wpAnyH_ready (rs := [11]) (by kernel_rfl) (by simp) ?_
              refine (AllReadyH.cons (o := { dst := none, op := Op.store 88 (Operand.tmp 6) (Operand.tmp 16), type := 0, pos := "span.go:69", after := #[{ on := 9, ground := Ground.data }, { on := 7, ground := Ground.data }, { on := 10, ground := Ground.chain }, { on := 0, ground := Ground.phase }, { on := 1, ground := Ground.phase }, { on := 2, ground := Ground.phase }, { on := 3, ground := Ground.phase }, { on := 4, ground := Ground.phase }, { on := 5, ground := Ground.phase }, { on := 6, ground := Ground.phase }, { on := 7, ground := Ground.phase }, { on := 8, ground := Ground.phase }, { on := 9, ground := Ground.phase }, { on := 10, ground := Ground.phase }], guard := none }) rfl (fun K hK => ?_) AllReadyH.nil)
              · skip
                obtain ⟨q0, q1, q2, q3, q4⟩ := bx_facts2 FB_9
                go_simp
                obtain ⟨wx10, hw10, FB_10, ho10, hlo10z, hb10⟩ := bx_put2 FB_9 (.int .i64 sb) (.int .i64 mb)
                rw [← hw10]
                have FA_10 := (ho10 _ (by first | assumption | (exact Ne.symm (by assumption)) | omega)).trans FA_9
                have FR_10 := (ho10 _ (by first | assumption | (exact Ne.symm (by assumption)) | omega)).trans FR_9
                have hlo10 := Nat.le_trans hlo9 (Nat.le_of_eq hlo10z.symm)
                have hHeld10S := mb_put HI.out hHeld9 (hb10 _ hloB)
                clear hw10 ho10 hlo10z q0 q1 q2 q3 q4
                refine hK.out _ _ hHeld10S (fun hHeld10 => ?_)
                clear hK K hHeld10S hb10 hlo9 FA_9 FB_9 FR_9
                try simp only [Act.put, List.setIfInBounds_toArray, List.set_cons_zero, List.set_cons_succ]
                clear hHeld9
                refine wpAnyH_done (by kernel_rfl) ?_ _
                refine NoPanic.normal ?_
                go_wp2_with fail
                go_meet
                exact ⟨pA, pB, rfl, rfl, hid ⟨mb_of hHeld10, FR_10, FA_10, FB_10, by omega, by omega⟩⟩
      · skip
        go_simp
        have hb11 := Joins.below_alloc1 wx1 (.cells #[.int .i64 0, .int .i64 0] 88)
        have FA_11 := World.alloc_heap_new wx1 (.cells #[.int .i64 0, .int .i64 0] 88)
        have FR_11 := kp0 hb11 FR_1
        have hlo11 := Nat.le_trans hlo1 hb11.size
        have hloA := hlo1
        have hHeld11S := mb_keep hHeld1 hb11
        generalize World.alloc wx1 (.cells #[.int .i64 0, .int .i64 0] 88) = wx11 at hb11 hlo11 hHeld11S FA_11 FR_11 ⊢
        obtain ⟨pA, hpA⟩ : ∃ p, p = wx1.heap.size := ⟨_, rfl⟩
        rw [← hpA] at FA_11 hloA ⊢
        clear hpA
        refine hK.out _ _ hHeld11S (fun hHeld11 => ?_)
        clear hK K hHeld11S hb11 hlo1 FR_1
        try simp only [Act.put, List.setIfInBounds_toArray, List.set_cons_zero, List.set_cons_succ]
        clear hHeld1
        refine wpAnyH_ready (rs := [7, 9]) (by kernel_rfl) (by simp) ?_
        refine (AllReadyH.cons (o := { dst := some 16, op := Op.call { callee := Callee.value (Operand.func 84), args := #[Operand.tmp 13, Operand.tmp 15], argTypes := #[24, 3] }, type := 88, pos := "span.go:69", after := #[{ on := 4, ground := Ground.data }, { on := 6, ground := Ground.data }, { on := 3, ground := Ground.chain }], guard := none }) rfl (fun K hK => ?_) (AllReadyH.cons (o := { dst := some 6, op := Op.alloc 88, type := 0, pos := "span.go:69", after := #[], guard := none }) rfl (fun K hK => ?_) AllReadyH.nil))
        · skip
          go_simp
          refine (look_any W H ao n cap Z HG.out b HB0.out _ (mb_ints (by assumption))).mono ?_
          rw [← HSB.out, ← HMB.out]
          rintro e wx12 ⟨rfl, hb12⟩
          try go_wp2_with fail
          have FA_12 := kp0 hb12 FA_11
          have FR_12 := kp0 hb12 FR_11
          have hlo12 := Nat.le_trans hlo11 hb12.size
          have hHeld12S := mb_keep hHeld11 hb12
          refine hK.out _ _ hHeld12S (fun hHeld12 => ?_)
          clear hK K hHeld12S hb12 hlo11 FA_11 FR_11
          try simp only [Act.put, List.setIfInBounds_toArray, List.set_cons_zero, List.set_cons_succ]
          clear hHeld11
          refine wpAnyH_ready (rs := [9]) (by kernel_rfl) (by simp) ?_
          refine (AllReadyH.cons (o := { dst := some 6, op := Op.alloc 88, type := 0, pos := "span.go:69", after := #[], guard := none }) rfl (fun K hK => ?_) AllReadyH.nil)
          · skip
            go_simp
            have hb13 := Joins.below_alloc1 wx12 (.cells #[.int .i64 0, .int .i64 0] 88)
            have FB_13 := World.alloc_heap_new wx12 (.cells #[.int .i64 0, .int .i64 0] 88)
            have hnAB := Nat.ne_of_lt (heap_lt FA_12)
            have FA_13 := kp0 hb13 FA_12
            have FR_13 := kp0 hb13 FR_12
            have hlo13 := Nat.le_trans hlo12 hb13.size
            have hloB := hlo12
            have hHeld13S := mb_keep hHeld12 hb13
            generalize World.alloc wx12 (.cells #[.int .i64 0, .int .i64 0] 88) = wx13 at hb13 hlo13 hHeld13S FB_13 FA_13 FR_13 ⊢
            obtain ⟨pB, hpB⟩ : ∃ p, p = wx12.heap.size := ⟨_, rfl⟩
            rw [← hpB] at FB_13 hloB hnAB ⊢
            clear hpB
            refine hK.out _ _ hHeld13S (fun hHeld13 => ?_)
            clear hK K hHeld13S hb13 hlo12 FA_12 FR_12
            try simp only [Act.put, List.setIfInBounds_toArray, List.set_cons_zero, List.set_cons_succ]
            clear hHeld12
            refine wpAnyH_ready (rs := [10]) (by kernel_rfl) (by simp) ?_
            refine (AllReadyH.cons (o := { dst := none, op := Op.store 88 (Operand.tmp 5) (Operand.tmp 12), type := 0, pos := "span.go:69", after := #[{ on := 8, ground := Ground.data }, { on := 3, ground := Ground.data }, { on := 7, ground := Ground.chain }, { on := 0, ground := Ground.phase }, { on := 1, ground := Ground.phase }, { on := 2, ground := Ground.phase }, { on := 3, ground := Ground.phase }, { on := 4, ground := Ground.textOnly Departure.lateStores }, { on := 5, ground := Ground.textOnly Departure.lateStores }, { on := 6, ground := Ground.textOnly Departure.lateStores }, { on := 7, ground := Ground.textOnly Departure.lateStoresUnsure }, { on := 8, ground := Ground.phase }, { on := 9, ground := Ground.phase }], guard := none }) rfl (fun K hK => ?_) AllReadyH.nil)
            · skip
              obtain ⟨q0, q1, q2, q3, q4⟩ := bx_facts2 FA_13
              go_simp
              obtain ⟨wx14, hw14, FA_14, ho14, hlo14z, hb14⟩ := bx_put2 FA_13 (.int .i64 sa) (.int .i64 ma)
              rw [← hw14]
              have FB_14 := (ho14 _ (by first | assumption | (exact Ne.symm (by assumption)) | omega)).trans FB_13
              have FR_14 := (ho14 _ (by first | assumption | (exact Ne.symm (by assumption)) | omega)).trans FR_13
              have hlo14 := Nat.le_trans hlo13 (Nat.le_of_eq hlo14z.symm)
              have hHeld14S := mb_put HI.out hHeld13 (hb14 _ hloA)
              clear hw14 ho14 hlo14z q0 q1 q2 q3 q4
              refine hK.out _ _ hHeld14S (fun hHeld14 => ?_)
              clear hK K hHeld14S hb14 hlo13 FB_13 FA_13 FR_13
              try simp only [Act.put, List.setIfInBounds_toArray, List.set_cons_zero, List.set_cons_succ]
              clear hHeld13
              refine wpAnyH_ready (rs := [11]) (by kernel_rfl) (by simp) ?_
              refine (AllReadyH.cons (o := { dst := none, op := Op.store 88 (Operand.tmp 6) (Operand.tmp 16), type := 0, pos := "span.go:69", after := #[{ on := 9, ground := Ground.data }, { on := 7, ground := Ground.data }, { on := 10, ground := Ground.chain }, { on := 0, ground := Ground.phase }, { on := 1, ground := Ground.phase }, { on := 2, ground := Ground.phase }, { on := 3, ground := Ground.phase }, { on := 4, ground := Ground.phase }, { on := 5, ground := Ground.phase }, { on := 6, ground := Ground.phase }, { on := 7, ground := Ground.phase }, { on := 8, ground := Ground.phase }, { on := 9, ground := Ground.phase }, { on := 10, ground := Ground.phase }], guard := none }) rfl (fun K hK => ?_) AllReadyH.nil)
              · skip
                obtain ⟨q0, q1, q2, q3, q4⟩ := bx_facts2 FB_14
                go_simp
                obtain ⟨wx15, hw15, FB_15, ho15, hlo15z, hb15⟩ := bx_put2 FB_14 (.int .i64 sb) (.int .i64 mb)
                rw [← hw15]
                have FA_15 := (ho15 _ (by first | assumption | (exact Ne.symm (by assumption)) | omega)).trans FA_14
                have FR_15 := (ho15 _ (by first | assumption | (exact Ne.symm (by assumption)) | omega)).trans FR_14
                have hlo15 := Nat.le_trans hlo14 (Nat.le_of_eq hlo15z.symm)
                have hHeld15S := mb_put HI.out hHeld14 (hb15 _ hloB)
                clear hw15 ho15 hlo15z q0 q1 q2 q3 q4
                refine hK.out _ _ hHeld15S (fun hHeld15 => ?_)
                clear hK K hHeld15S hb15 hlo14 FA_14 FB_14 FR_14
                try simp only [Act.put, List.setIfInBounds_toArray, List.set_cons_zero, List.set_cons_succ]
                clear hHeld14
                refine wpAnyH_done (by kernel_rfl) ?_ _
                refine NoPanic.normal ?_
                go_wp2_with fail
                go_meet
                exact ⟨pA, pB, rfl, rfl, hid ⟨mb_of hHeld15, FR_15, FA_15, FB_15, by omega, by omega⟩⟩
        · skip
          go_simp
          have hb16 := Joins.below_alloc1 wx11 (.cells #[.int .i64 0, .int .i64 0] 88)
          have FB_16 := World.alloc_heap_new wx11 (.cells #[.int .i64 0, .int .i64 0] 88)
          have hnAB := Nat.ne_of_lt (heap_lt FA_11)
          have FA_16 := kp0 hb16 FA_11
          have FR_16 := kp0 hb16 FR_11
          have hlo16 := Nat.le_trans hlo11 hb16.size
          have hloB := hlo11
          have hHeld16S := mb_keep hHeld11 hb16
          generalize World.alloc wx11 (.cells #[.int .i64 0, .int .i64 0] 88) = wx16 at hb16 hlo16 hHeld16S FB_16 FA_16 FR_16 ⊢
          obtain ⟨pB, hpB⟩ : ∃ p, p = wx11.heap.size := ⟨_, rfl⟩
          rw [← hpB] at FB_16 hloB hnAB ⊢
          clear hpB
          refine hK.out _ _ hHeld16S (fun hHeld16 => ?_)
          clear hK K hHeld16S hb16 hlo11 FA_11 FR_11
          try simp only [Act.put, List.setIfInBounds_toArray, List.set_cons_zero, List.set_cons_succ]
          clear hHeld11
          refine wpAnyH_ready (rs := [7]) (by kernel_rfl) (by simp) ?_
          refine (AllReadyH.cons (o := { dst := some 16, op := Op.call { callee := Callee.value (Operand.func 84), args := #[Operand.tmp 13, Operand.tmp 15], argTypes := #[24, 3] }, type := 88, pos := "span.go:69", after := #[{ on := 4, ground := Ground.data }, { on := 6, ground := Ground.data }, { on := 3, ground := Ground.chain }], guard := none }) rfl (fun K hK => ?_) AllReadyH.nil)
          · skip
            go_simp
            refine (look_any W H ao n cap Z HG.out b HB0.out _ (mb_ints (by assumption))).mono ?_
            rw [← HSB.out, ← HMB.out]
            rintro e wx17 ⟨rfl, hb17⟩
            try go_wp2_with fail
            have FB_17 := kp0 hb17 FB_16
            have FA_17 := kp0 hb17 FA_16
            have FR_17 := kp0 hb17 FR_16
            have hlo17 := Nat.le_trans hlo16 hb17.size
            have hHeld17S := mb_keep hHeld16 hb17
            refine hK.out _ _ hHeld17S (fun hHeld17 => ?_)
            clear hK K hHeld17S hb17 hlo16 FB_16 FA_16 FR_16
            try simp only [Act.put, List.setIfInBounds_toArray, List.set_cons_zero, List.set_cons_succ]
            clear hHeld16
            refine wpAnyH_ready (rs := [10]) (by kernel_rfl) (by simp) ?_
            refine (AllReadyH.cons (o := { dst := none, op := Op.store 88 (Operand.tmp 5) (Operand.tmp 12), type := 0, pos := "span.go:69", after := #[{ on := 8, ground := Ground.data }, { on := 3, ground := Ground.data }, { on := 7, ground := Ground.chain }, { on := 0, ground := Ground.phase }, { on := 1, ground := Ground.phase }, { on := 2, ground := Ground.phase }, { on := 3, ground := Ground.phase }, { on := 4, ground := Ground.textOnly Departure.lateStores }, { on := 5, ground := Ground.textOnly Departure.lateStores }, { on := 6, ground := Ground.textOnly Departure.lateStores }, { on := 7, ground := Ground.textOnly Departure.lateStoresUnsure }, { on := 8, ground := Ground.phase }, { on := 9, ground := Ground.phase }], guard := none }) rfl (fun K hK => ?_) AllReadyH.nil)
            · skip
              obtain ⟨q0, q1, q2, q3, q4⟩ := bx_facts2 FA_17
              go_simp
              obtain ⟨wx18, hw18, FA_18, ho18, hlo18z, hb18⟩ := bx_put2 FA_17 (.int .i64 sa) (.int .i64 ma)
              rw [← hw18]
              have FB_18 := (ho18 _ (by first | assumption | (exact Ne.symm (by assumption)) | omega)).trans FB_17
              have FR_18 := (ho18 _ (by first | assumption | (exact Ne.symm (by assumption)) | omega)).trans FR_17
              have hlo18 := Nat.le_trans hlo17 (Nat.le_of_eq hlo18z.symm)
              have hHeld18S := mb_put HI.out hHeld17 (hb18 _ hloA)
              clear hw18 ho18 hlo18z q0 q1 q2 q3 q4
              refine hK.out _ _ hHeld18S (fun hHeld18 => ?_)
              clear hK K hHeld18S hb18 hlo17 FB_17 FA_17 FR_17
              try simp only [Act.put, List.setIfInBounds_toArray, List.set_cons_zero, List.set_cons_succ]
              clear hHeld17
              refine wpAnyH_ready (rs := [11]) (by kernel_rfl) (by simp) ?_
              refine (AllReadyH.cons (o := { dst := none, op := Op.store 88 (Operand.tmp 6) (Operand.tmp 16), type := 0, pos := "span.go:69", after := #[{ on := 9, ground := Ground.data }, { on := 7, ground := Ground.data }, { on := 10, ground := Ground.chain }, { on := 0, ground := Ground.phase }, { on := 1, ground := Ground.phase }, { on := 2, ground := Ground.phase }, { on := 3, ground := Ground.phase }, { on := 4, ground := Ground.phase }, { on := 5, ground := Ground.phase }, { on := 6, ground := Ground.phase }, { on := 7, ground := Ground.phase }, { on := 8, ground := Ground.phase }, { on := 9, ground := Ground.phase }, { on := 10, ground := Ground.phase }], guard := none }) rfl (fun K hK => ?_) AllReadyH.nil)
              · skip
                obtain ⟨q0, q1, q2, q3, q4⟩ := bx_facts2 FB_18
                go_simp
                obtain ⟨wx19, hw19, FB_19, ho19, hlo19z, hb19⟩ := bx_put2 FB_18 (.int .i64 sb) (.int .i64 mb)
                rw [← hw19]
                have FA_19 := (ho19 _ (by first | assumption | (exact Ne.symm (by assumption)) | omega)).trans FA_18
                have FR_19 := (ho19 _ (by first | assumption | (exact Ne.symm (by assumption)) | omega)).trans FR_18
                have hlo19 := Nat.le_trans hlo18 (Nat.le_of_eq hlo19z.symm)
                have hHeld19S := mb_put HI.out hHeld18 (hb19 _ hloB)
                clear hw19 ho19 hlo19z q0 q1 q2 q3 q4
                refine hK.out _ _ hHeld19S (fun hHeld19 => ?_)
                clear hK K hHeld19S hb19 hlo18 FA_18 FB_18 FR_18
                try simp only [Act.put, List.setIfInBounds_toArray, List.set_cons_zero, List.set_cons_succ]
                clear hHeld18
                refine wpAnyH_done (by kernel_rfl) ?_ _
                refine NoPanic.normal ?_
                go_wp2_with fail
                go_meet
                exact ⟨pA, pB, rfl, rfl, hid ⟨mb_of hHeld19, FR_19, FA_19, FB_19, by omega, by omega⟩⟩
      · skip
        go_simp
        have hb20 := Joins.below_alloc1 wx1 (.cells #[.int .i64 0, .int .i64 0] 88)
        have FB_20 := World.alloc_heap_new wx1 (.cells #[.int .i64 0, .int .i64 0] 88)
        have FR_20 := kp0 hb20 FR_1
        have hlo20 := Nat.le_trans hlo1 hb20.size
        have hloB := hlo1
        have hHeld20S := mb_keep hHeld1 hb20
        generalize World.alloc wx1 (.cells #[.int .i64 0, .int .i64 0] 88) = wx20 at hb20 hlo20 hHeld20S FB_20 FR_20 ⊢
        obtain ⟨pB, hpB⟩ : ∃ p, p = wx1.heap.size := ⟨_, rfl⟩
        rw [← hpB] at FB_20 hloB ⊢
        clear hpB
        refine hK.out _ _ hHeld20S (fun hHeld20 => ?_)
        clear hK K hHeld20S hb20 hlo1 FR_1
        try simp only [Act.put, List.setIfInBounds_toArray, List.set_cons_zero, List.set_cons_succ]
        clear hHeld1
        refine wpAnyH_ready (rs := [7, 8]) (by kernel_rfl) (by simp) ?_
        refine (AllReadyH.cons (o := { dst := some 16, op := Op.call { callee := Callee.value (Operand.func 84), args := #[Operand.tmp 13, Operand.tmp 15], argTypes := #[24, 3] }, type := 88, pos := "span.go:69", after := #[{ on := 4, ground := Ground.data }, { on := 6, ground := Ground.data }, { on := 3, ground := Ground.chain }], guard := none }) rfl (fun K hK => ?_) (AllReadyH.cons (o := { dst := some 5, op := Op.alloc 88, type := 0, pos := "span.go:69", after := #[], guard := none }) rfl (fun K hK => ?_) AllReadyH.nil))
        · skip
          go_simp
          refine (look_any W H ao n cap Z HG.out b HB0.out _ (mb_ints (by assumption))).mono ?_
          rw [← HSB.out, ← HMB.out]
          rintro e wx21 ⟨rfl, hb21⟩
          try go_wp2_with fail
          have FB_21 := kp0 hb21 FB_20
          have FR_21 := kp0 hb21 FR_20
          have hlo21 := Nat.le_trans hlo20 hb21.size
          have hHeld21S := mb_keep hHeld20 hb21
          refine hK.out _ _ hHeld21S (fun hHeld21 => ?_)
          clear hK K hHeld21S hb21 hlo20 FB_20 FR_20
          try simp only [Act.put, List.setIfInBounds_toArray, List.set_cons_zero, List.set_cons_succ]
          clear hHeld20
          refine wpAnyH_ready (rs := [8]) (by kernel_rfl) (by simp) ?_
          refine (AllReadyH.cons (o := { dst := some 5, op := Op.alloc 88, type := 0, pos := "span.go:69", after := #[], guard := none }) rfl (fun K hK => ?_) AllReadyH.nil)
          · skip
            go_simp
            have hb22 := Joins.below_alloc1 wx21 (.cells #[.int .i64 0, .int .i64 0] 88)
            have FA_22 := World.alloc_heap_new wx21 (.cells #[.int .i64 0, .int .i64 0] 88)
            have hnBA := Nat.ne_of_lt (heap_lt FB_21)
            have FB_22 := kp0 hb22 FB_21
            have FR_22 := kp0 hb22 FR_21
            have hlo22 := Nat.le_trans hlo21 hb22.size
            have hloA := hlo21
            have hHeld22S := mb_keep hHeld21 hb22
            generalize World.alloc wx21 (.cells #[.int .i64 0, .int .i64 0] 88) = wx22 at hb22 hlo22 hHeld22S FA_22 FB_22 FR_22 ⊢
            obtain ⟨pA, hpA⟩ : ∃ p, p = wx21.heap.size := ⟨_, rfl⟩
            rw [← hpA] at FA_22 hloA hnBA ⊢
            clear hpA
            refine hK.out _ _ hHeld22S (fun hHeld22 => ?_)
            clear hK K hHeld22S hb22 hlo21 FB_21 FR_21
            try simp only [Act.put, List.setIfInBounds_toArray, List.set_cons_zero, List.set_cons_succ]
            clear hHeld21
            refine wpAnyH_ready (rs := [10]) (by kernel_rfl) (by simp) ?_
            refine (AllReadyH.cons (o := { dst := none, op := Op.store 88 (Operand.tmp 5) (Operand.tmp 12), type := 0, pos := "span.go:69", after := #[{ on := 8, ground := Ground.data }, { on := 3, ground := Ground.data }, { on := 7, ground := Ground.chain }, { on := 0, ground := Ground.phase }, { on := 1, ground := Ground.phase }, { on := 2, ground := Ground.phase }, { on := 3, ground := Ground.phase }, { on := 4, ground := Ground.textOnly Departure.lateStores }, { on := 5, ground := Ground.textOnly Departure.lateStores }, { on := 6, ground := Ground.textOnly Departure.lateStores }, { on := 7, ground := Ground.textOnly Departure.lateStoresUnsure }, { on := 8, ground := Ground.phase }, { on := 9, ground := Ground.phase }], guard := none }) rfl (fun K hK => ?_) AllReadyH.nil)
            · skip
              obtain ⟨q0, q1, q2, q3, q4⟩ := bx_facts2 FA_22
              go_simp
              obtain ⟨wx23, hw23, FA_23, ho23, hlo23z, hb23⟩ := bx_put2 FA_22 (.int .i64 sa) (.int .i64 ma)
              rw [← hw23]
              have FB_23 := (ho23 _ (by first | assumption | (exact Ne.symm (by assumption)) | omega)).trans FB_22
              have FR_23 := (ho23 _ (by first | assumption | (exact Ne.symm (by assumption)) | omega)).trans FR_22
              have hlo23 := Nat.le_trans hlo22 (Nat.le_of_eq hlo23z.symm)
              have hHeld23S := mb_put HI.out hHeld22 (hb23 _ hloA)
              clear hw23 ho23 hlo23z q0 q1 q2 q3 q4
              refine hK.out _ _ hHeld23S (fun hHeld23 => ?_)
              clear hK K hHeld23S hb23 hlo22 FA_22 FB_22 FR_22
              try simp only [Act.put, List.setIfInBounds_toArray, List.set_cons_zero, List.set_cons_succ]
              clear hHeld22
              refine wpAnyH_ready (rs := [11]) (by kernel_rfl) (by simp) ?_
              refine (AllReadyH.cons (o := { dst := none, op := Op.store 88 (Operand.tmp 6) (Operand.tmp 16), type := 0, pos := "span.go:69", after := #[{ on := 9, ground := Ground.data }, { on := 7, ground := Ground.data }, { on := 10, ground := Ground.chain }, { on := 0, ground := Ground.phase }, { on := 1, ground := Ground.phase }, { on := 2, ground := Ground.phase }, { on := 3, ground := Ground.phase }, { on := 4, ground := Ground.phase }, { on := 5, ground := Ground.phase }, { on := 6, ground := Ground.phase }, { on := 7, ground := Ground.phase }, { on := 8, ground := Ground.phase }, { on := 9, ground := Ground.phase }, { on := 10, ground := Ground.phase }], guard := none }) rfl (fun K hK => ?_) AllReadyH.nil)
              · skip
                obtain ⟨q0, q1, q2, q3, q4⟩ := bx_facts2 FB_23
                go_simp
                obtain ⟨wx24, hw24, FB_24, ho24, hlo24z, hb24⟩ := bx_put2 FB_23 (.int .i64 sb) (.int .i64 mb)
                rw [← hw24]
                have FA_24 := (ho24 _ (by first | assumption | (exact Ne.symm (by assumption)) | omega)).trans FA_23
                have FR_24 := (ho24 _ (by first | assumption | (exact Ne.symm (by assumption)) | omega)).trans FR_23
                have hlo24 := Nat.le_trans hlo23 (Nat.le_of_eq hlo24z.symm)
                have hHeld24S := mb_put HI.out hHeld23 (hb24 _ hloB)
                clear hw24 ho24 hlo24z q0 q1 q2 q3 q4
                refine hK.out _ _ hHeld24S (fun hHeld24 => ?_)
                clear hK K hHeld24S hb24 hlo23 FA_23 FB_23 FR_23
                try simp only [Act.put, List.setIfInBounds_toArray, List.set_cons_zero, List.set_cons_succ]
                clear hHeld23
                refine wpAnyH_done (by kernel_rfl) ?_ _
                refine NoPanic.normal ?_
                go_wp2_with fail
                go_meet
                exact ⟨pA, pB, rfl, rfl, hid ⟨mb_of hHeld24, FR_24, FA_24, FB_24, by omega, by omega⟩⟩
        · skip
          go_simp
          have hb25 := Joins.below_alloc1 wx20 (.cells #[.int .i64 0, .int .i64 0] 88)
          have FA_25 := World.alloc_heap_new wx20 (.cells #[.int .i64 0, .int .i64 0] 88)
          have hnBA := Nat.ne_of_lt (heap_lt FB_20)
          have FB_25 := kp0 hb25 FB_20
          have FR_25 := kp0 hb25 FR_20
          have hlo25 := Nat.le_trans hlo20 hb25.size
          have hloA := hlo20
          have hHeld25S := mb_keep hHeld20 hb25
          generalize World.alloc wx20 (.cells #[.int .i64 0, .int .i64 0] 88) = wx25 at hb25 hlo25 hHeld25S FA_25 FB_25 FR_25 ⊢
          obtain ⟨pA, hpA⟩ : ∃ p, p = wx20.heap.size := ⟨_, rfl⟩
          rw [← hpA] at FA_25 hloA hnBA ⊢
          clear hpA
          refine hK.out _ _ hHeld25S (fun hHeld25 => ?_)
          clear hK K hHeld25S hb25 hlo20 FB_20 FR_20
          try simp only [Act.put, List.setIfInBounds_toArray, List.set_cons_zero, List.set_cons_succ]
          clear hHeld20
          refine wpAnyH_ready (rs := [7]) (by kernel_rfl) (by simp) ?_
          refine (AllReadyH.cons (o := { dst := some 16, op := Op.call { callee := Callee.value (Operand.func 84), args := #[Operand.tmp 13, Operand.tmp 15], argTypes := #[24, 3] }, type := 88, pos := "span.go:69", after := #[{ on := 4, ground := Ground.data }, { on := 6, ground := Ground.data }, { on := 3, ground := Ground.chain }], guard := none }) rfl (fun K hK => ?_) AllReadyH.nil)
          · skip
            go_simp
            refine (look_any W H ao n cap Z HG.out b HB0.out _ (mb_ints (by assumption))).mono ?_
            rw [← HSB.out, ← HMB.out]
            rintro e wx26 ⟨rfl, hb26⟩
            try go_wp2_with fail
            have FA_26 := kp0 hb26 FA_25
            have FB_26 := kp0 hb26 FB_25
            have FR_26 := kp0 hb26 FR_25
            have hlo26 := Nat.le_trans hlo25 hb26.size
            have hHeld26S := mb_keep hHeld25 hb26
            refine hK.out _ _ hHeld26S (fun hHeld26 => ?_)
            clear hK K hHeld26S hb26 hlo25 FA_25 FB_25 FR_25
            try simp only [Act.put, List.setIfInBounds_toArray, List.set_cons_zero, List.set_cons_succ]
            clear hHeld25
            refine wpAnyH_ready (rs := [10]) (by kernel_rfl) (by simp) ?_
            refine (AllReadyH.cons (o := { dst := none, op := Op.store 88 (Operand.tmp 5) (Operand.tmp 12), type := 0, pos := "span.go:69", after := #[{ on := 8, ground := Ground.data }, { on := 3, ground := Ground.data }, { on := 7, ground := Ground.chain }, { on := 0, ground := Ground.phase }, { on := 1, ground := Ground.phase }, { on := 2, ground := Ground.phase }, { on := 3, ground := Ground.phase }, { on := 4, ground := Ground.textOnly Departure.lateStores }, { on := 5, ground := Ground.textOnly Departure.lateStores }, { on := 6, ground := Ground.textOnly Departure.lateStores }, { on := 7, ground := Ground.textOnly Departure.lateStoresUnsure }, { on := 8, ground := Ground.phase }, { on := 9, ground := Ground.phase }], guard := none }) rfl (fun K hK => ?_) AllReadyH.nil)
            · skip
              obtain ⟨q0, q1, q2, q3, q4⟩ := bx_facts2 FA_26
              go_simp
              obtain ⟨wx27, hw27, FA_27, ho27, hlo27z, hb27⟩ := bx_put2 FA_26 (.int .i64 sa) (.int .i64 ma)
              rw [← hw27]
              have FB_27 := (ho27 _ (by first | assumption | (exact Ne.symm (by assumption)) | omega)).trans FB_26
              have FR_27 := (ho27 _ (by first | assumption | (exact Ne.symm (by assumption)) | omega)).trans FR_26
              have hlo27 := Nat.le_trans hlo26 (Nat.le_of_eq hlo27z.symm)
              have hHeld27S := mb_put HI.out hHeld26 (hb27 _ hloA)
              clear hw27 ho27 hlo27z q0 q1 q2 q3 q4
              refine hK.out _ _ hHeld27S (fun hHeld27 => ?_)
              clear hK K hHeld27S hb27 hlo26 FA_26 FB_26 FR_26
              try simp only [Act.put, List.setIfInBounds_toArray, List.set_cons_zero, List.set_cons_succ]
              clear hHeld26
              refine wpAnyH_ready (rs := [11]) (by kernel_rfl) (by simp) ?_
              refine (AllReadyH.cons (o := { dst := none, op := Op.store 88 (Operand.tmp 6) (Operand.tmp 16), type := 0, pos := "span.go:69", after := #[{ on := 9, ground := Ground.data }, { on := 7, ground := Ground.data }, { on := 10, ground := Ground.chain }, { on := 0, ground := Ground.phase }, { on := 1, ground := Ground.phase }, { on := 2, ground := Ground.phase }, { on := 3, ground := Ground.phase }, { on := 4, ground := Ground.phase }, { on := 5, ground := Ground.phase }, { on := 6, ground := Ground.phase }, { on := 7, ground := Ground.phase }, { on := 8, ground := Ground.phase }, { on := 9, ground := Ground.phase }, { on := 10, ground := Ground.phase }], guard := none }) rfl (fun K hK => ?_) AllReadyH.nil)
              · skip
                obtain ⟨q0, q1, q2, q3, q4⟩ := bx_facts2 FB_27
                go_simp
                obtain ⟨wx28, hw28, FB_28, ho28, hlo28z, hb28⟩ := bx_put2 FB_27 (.int .i64 sb) (.int .i64 mb)
                rw [← hw28]
                have FA_28 := (ho28 _ (by first | assumption | (exact Ne.symm (by assumption)) | omega)).trans FA_27
                have FR_28 := (ho28 _ (by first | assumption | (exact Ne.symm (by assumption)) | omega)).trans FR_27
                have hlo28 := Nat.le_trans hlo27 (Nat.le_of_eq hlo28z.symm)
                have hHeld28S := mb_put HI.out hHeld27 (hb28 _ hloB)
                clear hw28 ho28 hlo28z q0 q1 q2 q3 q4
                refine hK.out _ _ hHeld28S (fun hHeld28 => ?_)
                clear hK K hHeld28S hb28 hlo27 FA_27 FB_27 FR_27
                try simp only [Act.put, List.setIfInBounds_toArray, List.set_cons_zero, List.set_cons_succ]
                clear hHeld27
                refine wpAnyH_done (by kernel_rfl) ?_ _
                refine NoPanic.normal ?_
                go_wp2_with fail
                go_meet
                exact ⟨pA, pB, rfl, rfl, hid ⟨mb_of hHeld28, FR_28, FA_28, FB_28, by omega, by omega⟩⟩
    · skip
      go_simp
      have hb29 := Joins.below_alloc1 wx0 (.cells #[.int .i64 0, .int .i64 0] 88)
      have FA_29 := World.alloc_heap_new wx0 (.cells #[.int .i64 0, .int .i64 0] 88)
      have FR_29 := kp0 hb29 FR'
      have hlo29 := Nat.le_trans hlo0 hb29.size
      have hloA := hlo0
      have hHeld29S := mb_keep hHeld hb29
      generalize World.alloc wx0 (.cells #[.int .i64 0, .int .i64 0] 88) = wx29 at hb29 hlo29 hHeld29S FA_29 FR_29 ⊢
      obtain ⟨pA, hpA⟩ : ∃ p, p = wx0.heap.size := ⟨_, rfl⟩
      rw [← hpA] at FA_29 hloA ⊢
      clear hpA
      refine hK.out _ _ hHeld29S (fun hHeld29 => ?_)
      clear hK K hHeld29S hb29 hlo0 FR'
      try simp only [Act.put, List.setIfInBounds_toArray, List.set_cons_zero, List.set_cons_succ]
      clear hHeld
      refine wpAnyH_ready (rs := [3, 9]) (by kernel_rfl) (by simp) ?_
      refine (AllReadyH.cons (o := { dst := some 12, op := Op.call { callee := Callee.value (Operand.func 84), args := #[Operand.tmp 9, Operand.tmp 11], argTypes := #[24, 3] }, type := 88, pos := "span.go:69", after := #[{ on := 0, ground := Ground.data }, { on := 2, ground := Ground.data }], guard := none }) rfl (fun K hK => ?_) (AllReadyH.cons (o := { dst := some 6, op := Op.alloc 88, type := 0, pos := "span.go:69", after := #[], guard := none }) rfl (fun K hK => ?_) AllReadyH.nil))
      · skip
        go_simp
        refine (look_any W H ao n cap Z HG.out a HA.out _ (mb_ints (by assumption))).mono ?_
        rw [← HSA.out, ← HMA.out]
        rintro e wx30 ⟨rfl, hb30⟩
        try go_wp2_with fail
        have FA_30 := kp0 hb30 FA_29
        have FR_30 := kp0 hb30 FR_29
        have hlo30 := Nat.le_trans hlo29 hb30.size
        have hHeld30S := mb_keep hHeld29 hb30
        refine hK.out _ _ hHeld30S (fun hHeld30 => ?_)
        clear hK K hHeld30S hb30 hlo29 FA_29 FR_29
        try simp only [Act.put, List.setIfInBounds_toArray, List.set_cons_zero, List.set_cons_succ]
        clear hHeld29
        refine wpAnyH_ready (rs := [7, 9]) (by kernel_rfl) (by simp) ?_
        refine (AllReadyH.cons (o := { dst := some 16, op := Op.call { callee := Callee.value (Operand.func 84), args := #[Operand.tmp 13, Operand.tmp 15], argTypes := #[24, 3] }, type := 88, pos := "span.go:69", after := #[{ on := 4, ground := Ground.data }, { on := 6, ground := Ground.data }, { on := 3, ground := Ground.chain }], guard := none }) rfl (fun K hK => ?_) (AllReadyH.cons (o := { dst := some 6, op := Op.alloc 88, type := 0, pos := "span.go:69", after := #[], guard := none }) rfl (fun K hK => ?_) AllReadyH.nil))
        · skip
          go_simp
          refine (look_any W H ao n cap Z HG.out b HB0.out _ (mb_ints (by assumption))).mono ?_
          rw [← HSB.out, ← HMB.out]
          rintro e wx31 ⟨rfl, hb31⟩
          try go_wp2_with fail
          have FA_31 := kp0 hb31 FA_30
          have FR_31 := kp0 hb31 FR_30
          have hlo31 := Nat.le_trans hlo30 hb31.size
          have hHeld31S := mb_keep hHeld30 hb31
          refine hK.out _ _ hHeld31S (fun hHeld31 => ?_)
          clear hK K hHeld31S hb31 hlo30 FA_30 FR_30
          try simp only [Act.put, List.setIfInBounds_toArray, List.set_cons_zero, List.set_cons_succ]
          clear hHeld30
          refine wpAnyH_ready (rs := [9]) (by kernel_rfl) (by simp) ?_
          refine (AllReadyH.cons (o := { dst := some 6, op := Op.alloc 88, type := 0, pos := "span.go:69", after := #[], guard := none }) rfl (fun K hK => ?_) AllReadyH.nil)
          · skip
            go_simp
            have hb32 := Joins.below_alloc1 wx31 (.cells #[.int .i64 0, .int .i64 0] 88)
            have FB_32 := World.alloc_heap_new wx31 (.cells #[.int .i64 0, .int .i64 0] 88)
            have hnAB := Nat.ne_of_lt (heap_lt FA_31)
            have FA_32 := kp0 hb32 FA_31
            have FR_32 := kp0 hb32 FR_31
            have hlo32 := Nat.le_trans hlo31 hb32.size
            have hloB := hlo31
            have hHeld32S := mb_keep hHeld31 hb32
            generalize World.alloc wx31 (.cells #[.int .i64 0, .int .i64 0] 88) = wx32 at hb32 hlo32 hHeld32S FB_32 FA_32 FR_32 ⊢
            obtain ⟨pB, hpB⟩ : ∃ p, p = wx31.heap.size := ⟨_, rfl⟩
            rw [← hpB] at FB_32 hloB hnAB ⊢
            clear hpB
            refine hK.out _ _ hHeld32S (fun hHeld32 => ?_)
            clear hK K hHeld32S hb32 hlo31 FA_31 FR_31
            try simp only [Act.put, List.setIfInBounds_toArray, List.set_cons_zero, List.set_cons_succ]
            clear hHeld31
            refine wpAnyH_ready (rs := [10]) (by kernel_rfl) (by simp) ?_
            refine (AllReadyH.cons (o := { dst := none, op := Op.store 88 (Operand.tmp 5) (Operand.tmp 12), type := 0, pos := "span.go:69", after := #[{ on := 8, ground := Ground.data }, { on := 3, ground := Ground.data }, { on := 7, ground := Ground.chain }, { on := 0, ground := Ground.phase }, { on := 1, ground := Ground.phase }, { on := 2, ground := Ground.phase }, { on := 3, ground := Ground.phase }, { on := 4, ground := Ground.textOnly Departure.lateStores }, { on := 5, ground := Ground.textOnly Departure.lateStores }, { on := 6, ground := Ground.textOnly Departure.lateStores }, { on := 7, ground := Ground.textOnly Departure.lateStoresUnsure }, { on := 8, ground := Ground.phase }, { on := 9, ground := Ground.phase }], guard := none }) rfl (fun K hK => ?_) AllReadyH.nil)
            · skip
              obtain ⟨q0, q1, q2, q3, q4⟩ := bx_facts2 FA_32
              go_simp
              obtain ⟨wx33, hw33, FA_33, ho33, hlo33z, hb33⟩ := bx_put2 FA_32 (.int .i64 sa) (.int .i64 ma)
              rw [← hw33]
              have FB_33 := (ho33 _ (by first | assumption | (exact Ne.symm (by assumption)) | omega)).trans FB_32
              have FR_33 := (ho33 _ (by first | assumption | (exact Ne.symm (by assumption)) | omega)).trans FR_32
              have hlo33 := Nat.le_trans hlo32 (Nat.le_of_eq hlo33z.symm)
              have hHeld33S := mb_put HI.out hHeld32 (hb33 _ hloA)
              clear hw33 ho33 hlo33z q0 q1 q2 q3 q4
              refine hK.out _ _ hHeld33S (fun hHeld33 => ?_)
              clear hK K hHeld33S hb33 hlo32 FB_32 FA_32 FR_32
              try simp only [Act.put, List.setIfInBounds_toArray, List.set_cons_zero, List.set_cons_succ]
              clear hHeld32
              refine wpAnyH_ready (rs := [11]) (by kernel_rfl) (by simp) ?_
              refine (AllReadyH.cons (o := { dst := none, op := Op.store 88 (Operand.tmp 6) (Operand.tmp 16), type := 0, pos := "span.go:69", after := #[{ on := 9, ground := Ground.data }, { on := 7, ground := Ground.data }, { on := 10, ground := Ground.chain }, { on := 0, ground := Ground.phase }, { on := 1, ground := Ground.phase }, { on := 2, ground := Ground.phase }, { on := 3, ground := Ground.phase }, { on := 4, ground := Ground.phase }, { on := 5, ground := Ground.phase }, { on := 6, ground := Ground.phase }, { on := 7, ground := Ground.phase }, { on := 8, ground := Ground.phase }, { on := 9, ground := Ground.phase }, { on := 10, ground := Ground.phase }], guard := none }) rfl (fun K hK => ?_) AllReadyH.nil)
              · skip
                obtain ⟨q0, q1, q2, q3, q4⟩ := bx_facts2 FB_33
                go_simp
                obtain ⟨wx34, hw34, FB_34, ho34, hlo34z, hb34⟩ := bx_put2 FB_33 (.int .i64 sb) (.int .i64 mb)
                rw [← hw34]
                have FA_34 := (ho34 _ (by first | assumption | (exact Ne.symm (by assumption)) | omega)).trans FA_33
                have FR_34 := (ho34 _ (by first | assumption | (exact Ne.symm (by assumption)) | omega)).trans FR_33
                have hlo34 := Nat.le_trans hlo33 (Nat.le_of_eq hlo34z.symm)
                have hHeld34S := mb_put HI.out hHeld33 (hb34 _ hloB)
                clear hw34 ho34 hlo34z q0 q1 q2 q3 q4
                refine hK.out _ _ hHeld34S (fun hHeld34 => ?_)
                clear hK K hHeld34S hb34 hlo33 FA_33 FB_33 FR_33
                try simp only [Act.put, List.setIfInBounds_toArray, List.set_cons_zero, List.set_cons_succ]
                clear hHeld33
                refine wpAnyH_done (by kernel_rfl) ?_ _
                refine NoPanic.normal ?_
                go_wp2_with fail
                go_meet
                exact ⟨pA, pB, rfl, rfl, hid ⟨mb_of hHeld34, FR_34, FA_34, FB_34, by omega, by omega⟩⟩
        · skip
          go_simp
          have hb35 := Joins.below_alloc1 wx30 (.cells #[.int .i64 0, .int .i64 0] 88)
          have FB_35 := World.alloc_heap_new wx30 (.cells #[.int .i64 0, .int .i64 0] 88)
          have hnAB := Nat.ne_of_lt (heap_lt FA_30)
          have FA_35 := kp0 hb35 FA_30
          have FR_35 := kp0 hb35 FR_30
          have hlo35 := Nat.le_trans hlo30 hb35.size
          have hloB := hlo30
          have hHeld35S := mb_keep hHeld30 hb35
          generalize World.alloc wx30 (.cells #[.int .i64 0, .int .i64 0] 88) = wx35 at hb35 hlo35 hHeld35S FB_35 FA_35 FR_35 ⊢
          obtain ⟨pB, hpB⟩ : ∃ p, p = wx30.heap.size := ⟨_, rfl⟩
          rw [← hpB] at FB_35 hloB hnAB ⊢
          clear hpB
          refine hK.out _ _ hHeld35S (fun hHeld35 => ?_)
          clear hK K hHeld35S hb35 hlo30 FA_30 FR_30
          try simp only [Act.put, List.setIfInBounds_toArray, List.set_cons_zero, List.set_cons_succ]
          clear hHeld30
          refine wpAnyH_ready (rs := [7]) (by kernel_rfl) (by simp) ?_
          refine (AllReadyH.cons (o := { dst := some 16, op := Op.call { callee := Callee.value (Operand.func 84), args := #[Operand.tmp 13, Operand.tmp 15], argTypes := #[24, 3] }, type := 88, pos := "span.go:69", after := #[{ on := 4, ground := Ground.data }, { on := 6, ground := Ground.data }, { on := 3, ground := Ground.chain }], guard := none }) rfl (fun K hK => ?_) AllReadyH.nil)
          · skip
            go_simp
            refine (look_any W H ao n cap Z HG.out b HB0.out _ (mb_ints (by assumption))).mono ?_
            rw [← HSB.out, ← HMB.out]
            rintro e wx36 ⟨rfl, hb36⟩
            try go_wp2_with fail
            have FB_36 := kp0 hb36 FB_35
            have FA_36 := kp0 hb36 FA_35
            have FR_36 := kp0 hb36 FR_35
            have hlo36 := Nat.le_trans hlo35 hb36.size
            have hHeld36S := mb_keep hHeld35 hb36
            refine hK.out _ _ hHeld36S (fun hHeld36 => ?_)
            clear hK K hHeld36S hb36 hlo35 FB_35 FA_35 FR_35
            try simp only [Act.put, List.setIfInBounds_toArray, List.set_cons_zero, List.set_cons_succ]
            clear hHeld35
            refine wpAnyH_ready (rs := [10]) (by kernel_rfl) (by simp) ?_
            refine (AllReadyH.cons (o := { dst := none, op := Op.store 88 (Operand.tmp 5) (Operand.tmp 12), type := 0, pos := "span.go:69", after := #[{ on := 8, ground := Ground.data }, { on := 3, ground := Ground.data }, { on := 7, ground := Ground.chain }, { on := 0, ground := Ground.phase }, { on := 1, ground := Ground.phase }, { on := 2, ground := Ground.phase }, { on := 3, ground := Ground.phase }, { on := 4, ground := Ground.textOnly Departure.lateStores }, { on := 5, ground := Ground.textOnly Departure.lateStores }, { on := 6, ground := Ground.textOnly Departure.lateStores }, { on := 7, ground := Ground.textOnly Departure.lateStoresUnsure }, { on := 8, ground := Ground.phase }, { on := 9, ground := Ground.phase }], guard := none }) rfl (fun K hK => ?_) AllReadyH.nil)
            · skip
              obtain ⟨q0, q1, q2, q3, q4⟩ := bx_facts2 FA_36
              go_simp
              obtain ⟨wx37, hw37, FA_37, ho37, hlo37z, hb37⟩ := bx_put2 FA_36 (.int .i64 sa) (.int .i64 ma)
              rw [← hw37]
              have FB_37 := (ho37 _ (by first | assumption | (exact Ne.symm (by assumption)) | omega)).trans FB_36
              have FR_37 := (ho37 _ (by first | assumption | (exact Ne.symm (by assumption)) | omega)).trans FR_36
              have hlo37 := Nat.le_trans hlo36 (Nat.le_of_eq hlo37z.symm)
              have hHeld37S := mb_put HI.out hHeld36 (hb37 _ hloA)
              clear hw37 ho37 hlo37z q0 q1 q2 q3 q4
              refine hK.out _ _ hHeld37S (fun hHeld37 => ?_)
              clear hK K hHeld37S hb37 hlo36 FB_36 FA_36 FR_36
              try simp only [Act.put, List.setIfInBounds_toArray, List.set_cons_zero, List.set_cons_succ]
              clear hHeld36
              refine wpAnyH_ready (rs := [11]) (by kernel_rfl) (by simp) ?_
              refine (AllReadyH.cons (o := { dst := none, op := Op.store 88 (Operand.tmp 6) (Operand.tmp 16), type := 0, pos := "span.go:69", after := #[{ on := 9, ground := Ground.data }, { on := 7, ground := Ground.data }, { on := 10, ground := Ground.chain }, { on := 0, ground := Ground.phase }, { on := 1, ground := Ground.phase }, { on := 2, ground := Ground.phase }, { on := 3, ground := Ground.phase }, { on := 4, ground := Ground.phase }, { on := 5, ground := Ground.phase }, { on := 6, ground := Ground.phase }, { on := 7, ground := Ground.phase }, { on := 8, ground := Ground.phase }, { on := 9, ground := Ground.phase }, { on := 10, ground := Ground.phase }], guard := none }) rfl (fun K hK => ?_) AllReadyH.nil)
              · skip
                obtain ⟨q0, q1, q2, q3, q4⟩ := bx_facts2 FB_37
                go_simp
                obtain ⟨wx38, hw38, FB_38, ho38, hlo38z, hb38⟩ := bx_put2 FB_37 (.int .i64 sb) (.int .i64 mb)
                rw [← hw38]
                have FA_38 := (ho38 _ (by first | assumption | (exact Ne.symm (by assumption)) | omega)).trans FA_37
                have FR_38 := (ho38 _ (by first | assumption | (exact Ne.symm (by assumption)) | omega)).trans FR_37
                have hlo38 := Nat.le_trans hlo37 (Nat.le_of_eq hlo38z.symm)
                have hHeld38S := mb_put HI.out hHeld37 (hb38 _ hloB)
                clear hw38 ho38 hlo38z q0 q1 q2 q3 q4
                refine hK.out _ _ hHeld38S (fun hHeld38 => ?_)
                clear hK K hHeld38S hb38 hlo37 FA_37 FB_37 FR_37
                try simp only [Act.put, List.setIfInBounds_toArray, List.set_cons_zero, List.set_cons_succ]
                clear hHeld37
                refine wpAnyH_done (by kernel_rfl) ?_ _
                refine NoPanic.normal ?_
                go_wp2_with fail
                go_meet
                exact ⟨pA, pB, rfl, rfl, hid ⟨mb_of hHeld38, FR_38, FA_38, FB_38, by omega, by omega⟩⟩
      · skip
        go_simp
        have hb39 := Joins.below_alloc1 wx29 (.cells #[.int .i64 0, .int .i64 0] 88)
        have FB_39 := World.alloc_heap_new wx29 (.cells #[.int .i64 0, .int .i64 0] 88)
        have hnAB := Nat.ne_of_lt (heap_lt FA_29)
        have FA_39 := kp0 hb39 FA_29
        have FR_39 := kp0 hb39 FR_29
        have hlo39 := Nat.le_trans hlo29 hb39.size
        have hloB := hlo29
        have hHeld39S := mb_keep hHeld29 hb39
        generalize World.alloc wx29 (.cells #[.int .i64 0, .int .i64 0] 88) = wx39 at hb39 hlo39 hHeld39S FB_39 FA_39 FR_39 ⊢
        obtain ⟨pB, hpB⟩ : ∃ p, p = wx29.heap.size := ⟨_, rfl⟩
        rw [← hpB] at FB_39 hloB hnAB ⊢
        clear hpB
        refine hK.out _ _ hHeld39S (fun hHeld39 => ?_)
        clear hK K hHeld39S hb39 hlo29 FA_29 FR_29
        try simp only [Act.put, List.setIfInBounds_toArray, List.set_cons_zero, List.set_cons_succ]
        clear hHeld29
        refine wpAnyH_ready (rs := [3]) (by kernel_rfl) (by simp) ?_
        refine (AllReadyH.cons (o := { dst := some 12, op := Op.call { callee := Callee.value (Operand.func 84), args := #[Operand.tmp 9, Operand.tmp 11], argTypes := #[24, 3] }, type := 88, pos := "span.go:69", after := #[{ on := 0, ground := Ground.data }, { on := 2, ground := Ground.data }], guard := none }) rfl (fun K hK => ?_) AllReadyH.nil)
        · skip
          go_simp
          refine (look_any W H ao n cap Z HG.out a HA.out _ (mb_ints (by assumption))).mono ?_
          rw [← HSA.out, ← HMA.out]
          rintro e wx40 ⟨rfl, hb40⟩
          try go_wp2_with fail
          have FB_40 := kp0 hb40 FB_39
          have FA_40 := kp0 hb40 FA_39
          have FR_40 := kp0 hb40 FR_39
          have hlo40 := Nat.le_trans hlo39 hb40.size
          have hHeld40S := mb_keep hHeld39 hb40
          refine hK.out _ _ hHeld40S (fun hHeld40 => ?_)
          clear hK K hHeld40S hb40 hlo39 FB_39 FA_39 FR_39
          try simp only [Act.put, List.setIfInBounds_toArray, List.set_cons_zero, List.set_cons_succ]
          clear hHeld39
          refine wpAnyH_ready (rs := [7]) (by kernel_rfl) (by simp) ?_
          refine (AllReadyH.cons (o := { dst := some 16, op := Op.call { callee := Callee.value (Operand.func 84), args := #[Operand.tmp 13, Operand.tmp 15], argTypes := #[24, 3] }, type := 88, pos := "span.go:69", after := #[{ on := 4, ground := Ground.data }, { on := 6, ground := Ground.data }, { on := 3, ground := Ground.chain }], guard := none }) rfl (fun K hK => ?_) AllReadyH.nil)
          · skip
            go_simp
            refine (look_any W H ao n cap Z HG.out b HB0.out _ (mb_ints (by assumption))).mono ?_
            rw [← HSB.out, ← HMB.out]
            rintro e wx41 ⟨rfl, hb41⟩
            try go_wp2_with fail
            have FB_41 := kp0 hb41 FB_40
            have FA_41 := kp0 hb41 FA_40
            have FR_41 := kp0 hb41 FR_40
            have hlo41 := Nat.le_trans hlo40 hb41.size
            have hHeld41S := mb_keep hHeld40 hb41
            refine hK.out _ _ hHeld41S (fun hHeld41 => ?_)
            clear hK K hHeld41S hb41 hlo40 FB_40 FA_40 FR_40
            try simp only [Act.put, List.setIfInBounds_toArray, List.set_cons_zero, List.set_cons_succ]
            clear hHeld40
            refine wpAnyH_ready (rs := [10]) (by kernel_rfl) (by simp) ?_
            refine (AllReadyH.cons (o := { dst := none, op := Op.store 88 (Operand.tmp 5) (Operand.tmp 12), type := 0, pos := "span.go:69", after := #[{ on := 8, ground := Ground.data }, { on := 3, ground := Ground.data }, { on := 7, ground := Ground.chain }, { on := 0, ground := Ground.phase }, { on := 1, ground := Ground.phase }, { on := 2, ground := Ground.phase }, { on := 3, ground := Ground.phase }, { on := 4, ground := Ground.textOnly Departure.lateStores }, { on := 5, ground := Ground.textOnly Departure.lateStores }, { on := 6, ground := Ground.textOnly Departure.lateStores }, { on := 7, ground := Ground.textOnly Departure.lateStoresUnsure }, { on := 8, ground := Ground.phase }, { on := 9, ground := Ground.phase }], guard := none }) rfl (fun K hK => ?_) AllReadyH.nil)
            · skip
              obtain ⟨q0, q1, q2, q3, q4⟩ := bx_facts2 FA_41
              go_simp
              obtain ⟨wx42, hw42, FA_42, ho42, hlo42z, hb42⟩ := bx_put2 FA_41 (.int .i64 sa) (.int .i64 ma)
              rw [← hw42]
              have FB_42 := (ho42 _ (by first | assumption | (exact Ne.symm (by assumption)) | omega)).trans FB_41
              have FR_42 := (ho42 _ (by first | assumption | (exact Ne.symm (by assumption)) | omega)).trans FR_41
              have hlo42 := Nat.le_trans hlo41 (Nat.le_of_eq hlo42z.symm)
              have hHeld42S := mb_put HI.out hHeld41 (hb42 _ hloA)
              clear hw42 ho42 hlo42z q0 q1 q2 q3 q4
              refine hK.out _ _ hHeld42S (fun hHeld42 => ?_)
              clear hK K hHeld42S hb42 hlo41 FB_41 FA_41 FR_41
              try simp only [Act.put, List.setIfInBounds_toArray, List.set_cons_zero, List.set_cons_succ]
              clear hHeld41
              refine wpAnyH_ready (rs := [11]) (by kernel_rfl) (by simp) ?_
              refine (AllReadyH.cons (o := { dst := none, op := Op.store 88 (Operand.tmp 6) (Operand.tmp 16), type := 0, pos := "span.go:69", after := #[{ on := 9, ground := Ground.data }, { on := 7, ground := Ground.data }, { on := 10, ground := Ground.chain }, { on := 0, ground := Ground.phase }, { on := 1, ground := Ground.phase }, { on := 2, ground := Ground.phase }, { on := 3, ground := Ground.phase }, { on := 4, ground := Ground.phase }, { on := 5, ground := Ground.phase }, { on := 6, ground := Ground.phase }, { on := 7, ground := Ground.phase }, { on := 8, ground := Ground.phase }, { on := 9, ground := Ground.phase }, { on := 10, ground := Ground.phase }], guard := none }) rfl (fun K hK => ?_) AllReadyH.nil)
              · skip
                obtain ⟨q0, q1, q2, q3, q4⟩ := bx_facts2 FB_42
                go_simp
                obtain ⟨wx43, hw43, FB_43, ho43, hlo43z, hb43⟩ := bx_put2 FB_42 (.int .i64 sb) (.int .i64 mb)
                rw [← hw43]
                have FA_43 := (ho43 _ (by first | assumption | (exact Ne.symm (by assumption)) | omega)).trans FA_42
                have FR_43 := (ho43 _ (by first | assumption | (exact Ne.symm (by assumption)) | omega)).trans FR_42
                have hlo43 := Nat.le_trans hlo42 (Nat.le_of_eq hlo43z.symm)
                have hHeld43S := mb_put HI.out hHeld42 (hb43 _ hloB)
                clear hw43 ho43 hlo43z q0 q1 q2 q3 q4
                refine hK.out _ _ hHeld43S (fun hHeld43 => ?_)
                clear hK K hHeld43S hb43 hlo42 FA_42 FB_42 FR_42
                try simp only [Act.put, List.setIfInBounds_toArray, List.set_cons_zero, List.set_cons_succ]
                clear hHeld42
                refine wpAnyH_done (by kernel_rfl) ?_ _
                refine NoPanic.normal ?_
                go_wp2_with fail
                go_meet
                exact ⟨pA, pB, rfl, rfl, hid ⟨mb_of hHeld43, FR_43, FA_43, FB_43, by omega, by omega⟩⟩
    · skip
      go_simp
      have hb44 := Joins.below_alloc1 wx0 (.cells #[.int .i64 0, .int .i64 0] 88)
      have FB_44 := World.alloc_heap_new wx0 (.cells #[.int .i64 0, .int .i64 0] 88)
      have FR_44 := kp0 hb44 FR'
      have hlo44 := Nat.le_trans hlo0 hb44.size
      have hloB := hlo0
      have hHeld44S := mb_keep hHeld hb44
      generalize World.alloc wx0 (.cells #[.int .i64 0, .int .i64 0] 88) = wx44 at hb44 hlo44 hHeld44S FB_44 FR_44 ⊢
      obtain ⟨pB, hpB⟩ : ∃ p, p = wx0.heap.size := ⟨_, rfl⟩
      rw [← hpB] at FB_44 hloB ⊢
      clear hpB
      refine hK.out _ _ hHeld44S (fun hHeld44 => ?_)
      clear hK K hHeld44S hb44 hlo0 FR'
      try simp only [Act.put, List.setIfInBounds_toArray, List.set_cons_zero, List.set_cons_succ]
      clear hHeld
      refine wpAnyH_ready (rs := [3, 8]) (by kernel_rfl) (by simp) ?_
      refine (AllReadyH.cons (o := { dst := some 12, op := Op.call { callee := Callee.value (Operand.func 84), args := #[Operand.tmp 9, Operand.tmp 11], argTypes := #[24, 3] }, type := 88, pos := "span.go:69", after := #[{ on := 0, ground := Ground.data }, { on := 2, ground := Ground.data }], guard := none }) rfl (fun K hK => ?_) (AllReadyH.cons (o := { dst := some 5, op := Op.alloc 88, type := 0, pos := "span.go:69", after := #[], guard := none }) rfl (fun K hK => ?_) AllReadyH.nil))
      · skip
        go_simp
        refine (look_any W H ao n cap Z HG.out a HA.out _ (mb_ints (by assumption))).mono ?_
        rw [← HSA.out, ← HMA.out]
        rintro e wx45 ⟨rfl, hb45⟩
        try go_wp2_with fail
        have FB_45 := kp0 hb45 FB_44
        have FR_45 := kp0 hb45 FR_44
        have hlo45 := Nat.le_trans hlo44 hb45.size
        have hHeld45S := mb_keep hHeld44 hb45
        refine hK.out _ _ hHeld45S (fun hHeld45 => ?_)
        clear hK K hHeld45S hb45 hlo44 FB_44 FR_44
        try simp only [Act.put, List.setIfInBounds_toArray, List.set_cons_zero, List.set_cons_succ]
        clear hHeld44
        refine wpAnyH_ready (rs := [7, 8]) (by kernel_rfl) (by simp) ?_
        refine (AllReadyH.cons (o := { dst := some 16, op := Op.call { callee := Callee.value (Operand.func 84), args := #[Operand.tmp 13, Operand.tmp 15], argTypes := #[24, 3] }, type := 88, pos := "span.go:69", after := #[{ on := 4, ground := Ground.data }, { on := 6, ground := Ground.data }, { on := 3, ground := Ground.chain }], guard := none }) rfl (fun K hK => ?_) (AllReadyH.cons (o := { dst := some 5, op := Op.alloc 88, type := 0, pos := "span.go:69", after := #[], guard := none }) rfl (fun K hK => ?_) AllReadyH.nil))
        · skip
          go_simp
          refine (look_any W H ao n cap Z HG.out b HB0.out _ (mb_ints (by assumption))).mono ?_
          rw [← HSB.out, ← HMB.out]
          rintro e wx46 ⟨rfl, hb46⟩
          try go_wp2_with fail
          have FB_46 := kp0 hb46 FB_45
          have FR_46 := kp0 hb46 FR_45
          have hlo46 := Nat.le_trans hlo45 hb46.size
          have hHeld46S := mb_keep hHeld45 hb46
          refine hK.out _ _ hHeld46S (fun hHeld46 => ?_)
          clear hK K hHeld46S hb46 hlo45 FB_45 FR_45
          try simp only [Act.put, List.setIfInBounds_toArray, List.set_cons_zero, List.set_cons_succ]
          clear hHeld45
          refine wpAnyH_ready (rs := [8]) (by kernel_rfl) (by simp) ?_
          refine (AllReadyH.cons (o := { dst := some 5, op := Op.alloc 88, type := 0, pos := "span.go:69", after := #[], guard := none }) rfl (fun K hK => ?_) AllReadyH.nil)
          · skip
            go_simp
            have hb47 := Joins.below_alloc1 wx46 (.cells #[.int .i64 0, .int .i64 0] 88)
            have FA_47 := World.alloc_heap_new wx46 (.cells #[.int .i64 0, .int .i64 0] 88)
            have hnBA := Nat.ne_of_lt (heap_lt FB_46)
            have FB_47 := kp0 hb47 FB_46
            have FR_47 := kp0 hb47 FR_46
            have hlo47 := Nat.le_trans hlo46 hb47.size
            have hloA := hlo46
            have hHeld47S := mb_keep hHeld46 hb47
            generalize World.alloc wx46 (.cells #[.int .i64 0, .int .i64 0] 88) = wx47 at hb47 hlo47 hHeld47S FA_47 FB_47 FR_47 ⊢
            obtain ⟨pA, hpA⟩ : ∃ p, p = wx46.heap.size := ⟨_, rfl⟩
            rw [← hpA] at FA_47 hloA hnBA ⊢
            clear hpA
            refine hK.out _ _ hHeld47S (fun hHeld47 => ?_)
            clear hK K hHeld47S hb47 hlo46 FB_46 FR_46
            try simp only [Act.put, List.setIfInBounds_toArray, List.set_cons_zero, List.set_cons_succ]
            clear hHeld46
            refine wpAnyH_ready (rs := [10]) (by kernel_rfl) (by simp) ?_
            refine (AllReadyH.cons (o := { dst := none, op := Op.store 88 (Operand.tmp 5) (Operand.tmp 12), type := 0, pos := "span.go:69", after := #[{ on := 8, ground := Ground.data }, { on := 3, ground := Ground.data }, { on := 7, ground := Ground.chain }, { on := 0, ground := Ground.phase }, { on := 1, ground := Ground.phase }, { on := 2, ground := Ground.phase }, { on := 3, ground := Ground.phase }, { on := 4, ground := Ground.textOnly Departure.lateStores }, { on := 5, ground := Ground.textOnly Departure.lateStores }, { on := 6, ground := Ground.textOnly Departure.lateStores }, { on := 7, ground := Ground.textOnly Departure.lateStoresUnsure }, { on := 8, ground := Ground.phase }, { on := 9, ground := Ground.phase }], guard := none }) rfl (fun K hK => ?_) AllReadyH.nil)
            · skip
              obtain ⟨q0, q1, q2, q3, q4⟩ := bx_facts2 FA_47
              go_simp
              obtain ⟨wx48, hw48, FA_48, ho48, hlo48z, hb48⟩ := bx_put2 FA_47 (.int .i64 sa) (.int .i64 ma)
              rw [← hw48]
              have FB_48 := (ho48 _ (by first | assumption | (exact Ne.symm (by assumption)) | omega)).trans FB_47
              have FR_48 := (ho48 _ (by first | assumption | (exact Ne.symm (by assumption)) | omega)).trans FR_47
              have hlo48 := Nat.le_trans hlo47 (Nat.le_of_eq hlo48z.symm)
              have hHeld48S := mb_put HI.out hHeld47 (hb48 _ hloA)
              clear hw48 ho48 hlo48z q0 q1 q2 q3 q4
              refine hK.out _ _ hHeld48S (fun hHeld48 => ?_)
              clear hK K hHeld48S hb48 hlo47 FA_47 FB_47 FR_47
              try simp only [Act.put, List.setIfInBounds_toArray, List.set_cons_zero, List.set_cons_succ]
              clear hHeld47
              refine wpAnyH_ready (rs := [11]) (by kernel_rfl) (by simp) ?_
              refine (AllReadyH.cons (o := { dst := none, op := Op.store 88 (Operand.tmp 6) (Operand.tmp 16), type := 0, pos := "span.go:69", after := #[{ on := 9, ground := Ground.data }, { on := 7, ground := Ground.data }, { on := 10, ground := Ground.chain }, { on := 0, ground := Ground.phase }, { on := 1, ground := Ground.phase }, { on := 2, ground := Ground.phase }, { on := 3, ground := Ground.phase }, { on := 4, ground := Ground.phase }, { on := 5, ground := Ground.phase }, { on := 6, ground := Ground.phase }, { on := 7, ground := Ground.phase }, { on := 8, ground := Ground.phase }, { on := 9, ground := Ground.phase }, { on := 10, ground := Ground.phase }], guard := none }) rfl (fun K hK => ?_) AllReadyH.nil)
              · skip
                obtain ⟨q0, q1, q2, q3, q4⟩ := bx_facts2 FB_48
                go_simp
                obtain ⟨wx49, hw49, FB_49, ho49, hlo49z, hb49⟩ := bx_put2 FB_48 (.int .i64 sb) (.int .i64 mb)
                rw [← hw49]
                have FA_49 := (ho49 _ (by first | assumption | (exact Ne.symm (by assumption)) | omega)).trans FA_48
                have FR_49 := (ho49 _ (by first | assumption | (exact Ne.symm (by assumption)) | omega)).trans FR_48
                have hlo49 := Nat.le_trans hlo48 (Nat.le_of_eq hlo49z.symm)
                have hHeld49S := mb_put HI.out hHeld48 (hb49 _ hloB)
                clear hw49 ho49 hlo49z q0 q1 q2 q3 q4
                refine hK.out _ _ hHeld49S (fun hHeld49 => ?_)
                clear hK K hHeld49S hb49 hlo48 FA_48 FB_48 FR_48
                try simp only [Act.put, List.setIfInBounds_toArray, List.set_cons_zero, List.set_cons_succ]
                clear hHeld48
                refine wpAnyH_done (by kernel_rfl) ?_ _
                refine NoPanic.normal ?_
                go_wp2_with fail
                go_meet
                exact ⟨pA, pB, rfl, rfl, hid ⟨mb_of hHeld49, FR_49, FA_49, FB_49, by omega, by omega⟩⟩
        · skip
          go_simp
          have hb50 := Joins.below_alloc1 wx45 (.cells #[.int .i64 0, .int .i64 0] 88)
          have FA_50 := World.alloc_heap_new wx45 (.cells #[.int .i64 0, .int .i64 0] 88)
          have hnBA := Nat.ne_of_lt (heap_lt FB_45)
          have FB_50 := kp0 hb50 FB_45
          have FR_50 := kp0 hb50 FR_45
          have hlo50 := Nat.le_trans hlo45 hb50.size
          have hloA := hlo45
          have hHeld50S := mb_keep hHeld45 hb50
          generalize World.alloc wx45 (.cells #[.int .i64 0, .int .i64 0] 88) = wx50 at hb50 hlo50 hHeld50S FA_50 FB_50 FR_50 ⊢
          obtain ⟨pA, hpA⟩ : ∃ p, p = wx45.heap.size := ⟨_, rfl⟩
          rw [← hpA] at FA_50 hloA hnBA ⊢
          clear hpA
          refine hK.out _ _ hHeld50S (fun hHeld50 => ?_)
          clear hK K hHeld50S hb50 hlo45 FB_45 FR_45
          try simp only [Act.put, List.setIfInBounds_toArray, List.set_cons_zero, List.set_cons_succ]
          clear hHeld45
          refine wpAnyH_ready (rs := [7]) (by kernel_rfl) (by simp) ?_
          refine (AllReadyH.cons (o := { dst := some 16, op := Op.call { callee := Callee.value (Operand.func 84), args := #[Operand.tmp 13, Operand.tmp 15], argTypes := #[24, 3] }, type := 88, pos := "span.go:69", after := #[{ on := 4, ground := Ground.data }, { on := 6, ground := Ground.data }, { on := 3, ground := Ground.chain }], guard := none }) rfl (fun K hK => ?_) AllReadyH.nil)
          · skip
            go_simp
            refine (look_any W H ao n cap Z HG.out b HB0.out _ (mb_ints (by assumption))).mono ?_
            rw [← HSB.out, ← HMB.out]
            rintro e wx51 ⟨rfl, hb51⟩
            try go_wp2_with fail
            have FA_51 := kp0 hb51 FA_50
            have FB_51 := kp0 hb51 FB_50
            have FR_51 := kp0 hb51 FR_50
            have hlo51 := Nat.le_trans hlo50 hb51.size
            have hHeld51S := mb_keep hHeld50 hb51
            refine hK.out _ _ hHeld51S (fun hHeld51 => ?_)
            clear hK K hHeld51S hb51 hlo50 FA_50 FB_50 FR_50
            try simp only [Act.put, List.setIfInBounds_toArray, List.set_cons_zero, List.set_cons_succ]
            clear hHeld50
            refine wpAnyH_ready (rs := [10]) (by kernel_rfl) (by simp) ?_
            refine (AllReadyH.cons (o := { dst := none, op := Op.store 88 (Operand.tmp 5) (Operand.tmp 12), type := 0, pos := "span.go:69", after := #[{ on := 8, ground := Ground.data }, { on := 3, ground := Ground.data }, { on := 7, ground := Ground.chain }, { on := 0, ground := Ground.phase }, { on := 1, ground := Ground.phase }, { on := 2, ground := Ground.phase }, { on := 3, ground := Ground.phase }, { on := 4, ground := Ground.textOnly Departure.lateStores }, { on := 5, ground := Ground.textOnly Departure.lateStores }, { on := 6, ground := Ground.textOnly Departure.lateStores }, { on := 7, ground := Ground.textOnly Departure.lateStoresUnsure }, { on := 8, ground := Ground.phase }, { on := 9, ground := Ground.phase }], guard := none }) rfl (fun K hK => ?_) AllReadyH.nil)
            · skip
              obtain ⟨q0, q1, q2, q3, q4⟩ := bx_facts2 FA_51
              go_simp
              obtain ⟨wx52, hw52, FA_52, ho52, hlo52z, hb52⟩ := bx_put2 FA_51 (.int .i64 sa) (.int .i64 ma)
              rw [← hw52]
              have FB_52 := (ho52 _ (by first | assumption | (exact Ne.symm (by assumption)) | omega)).trans FB_51
              have FR_52 := (ho52 _ (by first | assumption | (exact Ne.symm (by assumption)) | omega)).trans FR_51
              have hlo52 := Nat.le_trans hlo51 (Nat.le_of_eq hlo52z.symm)
              have hHeld52S := mb_put HI.out hHeld51 (hb52 _ hloA)
              clear hw52 ho52 hlo52z q0 q1 q2 q3 q4
              refine hK.out _ _ hHeld52S (fun hHeld52 => ?_)
              clear hK K hHeld52S hb52 hlo51 FA_51 FB_51 FR_51
              try simp only [Act.put, List.setIfInBounds_toArray, List.set_cons_zero, List.set_cons_succ]
              clear hHeld51
              refine wpAnyH_ready (rs := [11]) (by kernel_rfl) (by simp) ?_
              refine (AllReadyH.cons (o := { dst := none, op := Op.store 88 (Operand.tmp 6) (Operand.tmp 16), type := 0, pos := "span.go:69", after := #[{ on := 9, ground := Ground.data }, { on := 7, ground := Ground.data }, { on := 10, ground := Ground.chain }, { on := 0, ground := Ground.phase }, { on := 1, ground := Ground.phase }, { on := 2, ground := Ground.phase }, { on := 3, ground := Ground.phase }, { on := 4, ground := Ground.phase }, { on := 5, ground := Ground.phase }, { on := 6, ground := Ground.phase }, { on := 7, ground := Ground.phase }, { on := 8, ground := Ground.phase }, { on := 9, ground := Ground.phase }, { on := 10, ground := Ground.phase }], guard := none }) rfl (fun K hK => ?_) AllReadyH.nil)
              · skip
                obtain ⟨q0, q1, q2, q3, q4⟩ := bx_facts2 FB_52
                go_simp
                obtain ⟨wx53, hw53, FB_53, ho53, hlo53z, hb53⟩ := bx_put2 FB_52 (.int .i64 sb) (.int .i64 mb)
                rw [← hw53]
                have FA_53 := (ho53 _ (by first | assumption | (exact Ne.symm (by assumption)) | omega)).trans FA_52
                have FR_53 := (ho53 _ (by first | assumption | (exact Ne.symm (by assumption)) | omega)).trans FR_52
                have hlo53 := Nat.le_trans hlo52 (Nat.le_of_eq hlo53z.symm)
                have hHeld53S := mb_put HI.out hHeld52 (hb53 _ hloB)
                clear hw53 ho53 hlo53z q0 q1 q2 q3 q4
                refine hK.out _ _ hHeld53S (fun hHeld53 => ?_)
                clear hK K hHeld53S hb53 hlo52 FA_52 FB_52 FR_52
                try simp only [Act.put, List.setIfInBounds_toArray, List.set_cons_zero, List.set_cons_succ]
                clear hHeld52
                refine wpAnyH_done (by kernel_rfl) ?_ _
                refine NoPanic.normal ?_
                go_wp2_with fail
                go_meet
                exact ⟨pA, pB, rfl, rfl, hid ⟨mb_of hHeld53, FR_53, FA_53, FB_53, by omega, by omega⟩⟩
      · skip
        go_simp
        have hb54 := Joins.below_alloc1 wx44 (.cells #[.int .i64 0, .int .i64 0] 88)
        have FA_54 := World.alloc_heap_new wx44 (.cells #[.int .i64 0, .int .i64 0] 88)
        have hnBA := Nat.ne_of_lt (heap_lt FB_44)
        have FB_54 := kp0 hb54 FB_44
        have FR_54 := kp0 hb54 FR_44
        have hlo54 := Nat.le_trans hlo44 hb54.size
        have hloA := hlo44
        have hHeld54S := mb_keep hHeld44 hb54
        generalize World.alloc wx44 (.cells #[.int .i64 0, .int .i64 0] 88) = wx54 at hb54 hlo54 hHeld54S FA_54 FB_54 FR_54 ⊢
        obtain ⟨pA, hpA⟩ : ∃ p, p = wx44.heap.size := ⟨_, rfl⟩
        rw [← hpA] at FA_54 hloA hnBA ⊢
        clear hpA
        refine hK.out _ _ hHeld54S (fun hHeld54 => ?_)
        clear hK K hHeld54S hb54 hlo44 FB_44 FR_44
        try simp only [Act.put, List.setIfInBounds_toArray, List.set_cons_zero, List.set_cons_succ]
        clear hHeld44
        refine wpAnyH_ready (rs := [3]) (by kernel_rfl) (by simp) ?_
        refine (AllReadyH.cons (o := { dst := some 12, op := Op.call { callee := Callee.value (Operand.func 84), args := #[Operand.tmp 9, Operand.tmp 11], argTypes := #[24, 3] }, type := 88, pos := "span.go:69", after := #[{ on := 0, ground := Ground.data }, { on := 2, ground := Ground.data }], guard := none }) rfl (fun K hK => ?_) AllReadyH.nil)
        · skip
          go_simp
          refine (look_any W H ao n cap Z HG.out a HA.out _ (mb_ints (by assumption))).mono ?_
          rw [← HSA.out, ← HMA.out]
          rintro e wx55 ⟨rfl, hb55⟩
          try go_wp2_with fail
          have FA_55 := kp0 hb55 FA_54
          have FB_55 := kp0 hb55 FB_54
          have FR_55 := kp0 hb55 FR_54
          have hlo55 := Nat.le_trans hlo54 hb55.size
          have hHeld55S := mb_keep hHeld54 hb55
          refine hK.out _ _ hHeld55S (fun hHeld55 => ?_)
          clear hK K hHeld55S hb55 hlo54 FA_54 FB_54 FR_54
          try simp only [Act.put, List.setIfInBounds_toArray, List.set_cons_zero, List.set_cons_succ]
          clear hHeld54
          refine wpAnyH_ready (rs := [7]) (by kernel_rfl) (by simp) ?_
          refine (AllReadyH.cons (o := { dst := some 16, op := Op.call { callee := Callee.value (Operand.func 84), args := #[Operand.tmp 13, Operand.tmp 15], argTypes := #[24, 3] }, type := 88, pos := "span.go:69", after := #[{ on := 4, ground := Ground.data }, { on := 6, ground := Ground.data }, { on := 3, ground := Ground.chain }], guard := none }) rfl (fun K hK => ?_) AllReadyH.nil)
          · skip
            go_simp
            refine (look_any W H ao n cap Z HG.out b HB0.out _ (mb_ints (by assumption))).mono ?_
            rw [← HSB.out, ← HMB.out]
            rintro e wx56 ⟨rfl, hb56⟩
            try go_wp2_with fail
            have FA_56 := kp0 hb56 FA_55
            have FB_56 := kp0 hb56 FB_55
            have FR_56 := kp0 hb56 FR_55
            have hlo56 := Nat.le_trans hlo55 hb56.size
            have hHeld56S := mb_keep hHeld55 hb56
            refine hK.out _ _ hHeld56S (fun hHeld56 => ?_)
            clear hK K hHeld56S hb56 hlo55 FA_55 FB_55 FR_55
            try simp only [Act.put, List.setIfInBounds_toArray, List.set_cons_zero, List.set_cons_succ]
            clear hHeld55
            refine wpAnyH_ready (rs := [10]) (by kernel_rfl) (by simp) ?_
            refine (AllReadyH.cons (o := { dst := none, op := Op.store 88 (Operand.tmp 5) (Operand.tmp 12), type := 0, pos := "span.go:69", after := #[{ on := 8, ground := Ground.data }, { on := 3, ground := Ground.data }, { on := 7, ground := Ground.chain }, { on := 0, ground := Ground.phase }, { on := 1, ground := Ground.phase }, { on := 2, ground := Ground.phase }, { on := 3, ground := Ground.phase }, { on := 4, ground := Ground.textOnly Departure.lateStores }, { on := 5, ground := Ground.textOnly Departure.lateStores }, { on := 6, ground := Ground.textOnly Departure.lateStores }, { on := 7, ground := Ground.textOnly Departure.lateStoresUnsure }, { on := 8, ground := Ground.phase }, { on := 9, ground := Ground.phase }], guard := none }) rfl (fun K hK => ?_) AllReadyH.nil)
            · skip
              obtain ⟨q0, q1, q2, q3, q4⟩ := bx_facts2 FA_56
              go_simp
              obtain ⟨wx57, hw57, FA_57, ho57, hlo57z, hb57⟩ := bx_put2 FA_56 (.int .i64 sa) (.int .i64 ma)
              rw [← hw57]
              have FB_57 := (ho57 _ (by first | assumption | (exact Ne.symm (by assumption)) | omega)).trans FB_56
              have FR_57 := (ho57 _ (by first | assumption | (exact Ne.symm (by assumption)) | omega)).trans FR_56
              have hlo57 := Nat.le_trans hlo56 (Nat.le_of_eq hlo57z.symm)
              have hHeld57S := mb_put HI.out hHeld56 (hb57 _ hloA)
              clear hw57 ho57 hlo57z q0 q1 q2 q3 q4
              refine hK.out _ _ hHeld57S (fun hHeld57 => ?_)
              clear hK K hHeld57S hb57 hlo56 FA_56 FB_56 FR_56
              try simp only [Act.put, List.setIfInBounds_toArray, List.set_cons_zero, List.set_cons_succ]
              clear hHeld56
              refine wpAnyH_ready (rs := [11]) (by kernel_rfl) (by simp) ?_
              refine (AllReadyH.cons (o := { dst := none, op := Op.store 88 (Operand.tmp 6) (Operand.tmp 16), type := 0, pos := "span.go:69", after := #[{ on := 9, ground := Ground.data }, { on := 7, ground := Ground.data }, { on := 10, ground := Ground.chain }, { on := 0, ground := Ground.phase }, { on := 1, ground := Ground.phase }, { on := 2, ground := Ground.phase }, { on := 3, ground := Ground.phase }, { on := 4, ground := Ground.phase }, { on := 5, ground := Ground.phase }, { on := 6, ground := Ground.phase }, { on := 7, ground := Ground.phase }, { on := 8, ground := Ground.phase }, { on := 9, ground := Ground.phase }, { on := 10, ground := Ground.phase }], guard := none }) rfl (fun K hK => ?_) AllReadyH.nil)
              · skip
                obtain ⟨q0, q1, q2, q3, q4⟩ := bx_facts2 FB_57
                go_simp
                obtain ⟨wx58, hw58, FB_58, ho58, hlo58z, hb58⟩ := bx_put2 FB_57 (.int .i64 sb) (.int .i64 mb)
                rw [← hw58]
                have FA_58 := (ho58 _ (by first | assumption | (exact Ne.symm (by assumption)) | omega)).trans FA_57
                have FR_58 := (ho58 _ (by first | assumption | (exact Ne.symm (by assumption)) | omega)).trans FR_57
                have hlo58 := Nat.le_trans hlo57 (Nat.le_of_eq hlo58z.symm)
                have hHeld58S := mb_put HI.out hHeld57 (hb58 _ hloB)
                clear hw58 ho58 hlo58z q0 q1 q2 q3 q4
                refine hK.out _ _ hHeld58S (fun hHeld58 => ?_)
                clear hK K hHeld58S hb58 hlo57 FA_57 FB_57 FR_57
                try simp only [Act.put, List.setIfInBounds_toArray, List.set_cons_zero, List.set_cons_succ]
                clear hHeld57
                refine wpAnyH_done (by kernel_rfl) ?_ _
                refine NoPanic.normal ?_
                go_wp2_with fail
                go_meet
                exact ⟨pA, pB, rfl, rfl, hid ⟨mb_of hHeld58, FR_58, FA_58, FB_58, by omega, by omega⟩⟩
  case rest =>
    obtain ⟨p, q, rfl, rfl, HV⟩ := hcut
    have c0 := HV.out.bx.c0
    have c1 := HV.out.bx.c1
    have c2 := HV.out.bx.c2
    have d0 := HV.out.bx.d0
    have d1 := HV.out.bx.d1
    have d2 := HV.out.bx.d2
    have d3 := HV.out.bx.d3
    have hz := HV.out.bx.size
    obtain ⟨p0, p1, _, _, hpz⟩ := bx_facts2 HV.out.hp
    obtain ⟨q0, q1, _, _, hqz⟩ := bx_facts2 HV.out.hq
    have rc := cell_of_row _ _ 0 _ _ _ HV.out.rs
    have rf := frozen_of_row _ _ 0 _ _ HV.out.rs
    have hrz := heap_lt HV.out.rs
    simp only [List.getElem?_toArray, List.getElem?_cons_zero] at rc
    clear FR
    by_cases h1 : ma = mb ∧ sa < 16 ∧ sb < 16
    · obtain ⟨hm, h2, h3⟩ := h1
      have g1 : (ma == mb) = true := by rw [beq_iff_eq]; exact hm
      have g2 : (ma != mb) = false := by simp [hm]
      have HM' := hid hm
      clear hm
      by_cases hf : k = 1 → Face W Z a b
      · have HF := hid hf
        clear hf
        have hkk : k = 0 ∨ k = 1 := by omega
        rcases hkk with rfl | rfl
        · have HF0 := HF
          go_wp2_with (go_at_call 50; refine (between_any W H _ 0 a b u _).mono ?_; rintro e w6 ⟨rfl, hw6⟩)
          have HV6 := hid (HV.out.stays (Joins.below_alloc2 _ (.cells #[.int .i64 W, .int .i64 H, .slice ao n cap] 24) (.cells #[.int .i64 0, .int .i64 a, .int .i64 b, .int .i64 u] 26)))
          have HM6 := hid (mb_start (W := W) (H := H) (cap := cap) (k := 0) (a := a) (b := b) (u := u) HV.out.bx.ints)
          rw [hw6] at HV6 HM6
          clear hw6 c0 c1 c2 d0 d1 d2 d3
          try clear p0 p1 q0 q1 rc rf hpz hqz hrz
          have HS6 := HM6.out.size
          refine (wpIn_wide (n := 9)).1 ?_
          generalize hact : Act.mk _ _ = act
          have HB0' := hid hb0
          have HL := hid hl
          have hsz6 : wc.heap.size + 1 < w6.heap.size := HM6.out.size
          have hszb : w.heap.size + 1 + 1 < wc.heap.size := heap_lt HV.out.rs
          obtain ⟨d, hd⟩ : ∃ d, d = stp W a b := ⟨_, rfl⟩
          obtain ⟨c, hc⟩ : ∃ c, c = cnt d a b := ⟨_, rfl⟩
          have HD := hid hd
          have HC := hid hc
          clear hd hc hb0 ha
          refine wpIn_rangeFunc_ownF (a := act) rfl (by omega : 1 ≤ 9) (gf := 74) (lb := #[.pointer (some ⟨wc.heap.size, 0, none⟩), .pointer (some ⟨wc.heap.size + 1, 0, none⟩)]) (by rw [← hact]; rfl) trivial (enters_of Try.func74 (by kernel_rfl) rfl)
            (iter_stops _ hW1 hW2 (by have := HA.out; omega) (by have := HB0.out; omega) hl d c HD.out HC.out HM6.out (A := wc.heap.size) rfl) belowK_t (belowK_b (by omega)) (Below.refl _ _) (fun _ => rfl)
            (fun pre W' => (∀ i ∈ pre, MidOk W Z 0 ma (a + (i.val + 1) * d)) ∧ Below w6.heap.size w6 W')
            (fun cc _ W' => (cc = .ret ∧ r = false ∧ W'.cell? ⟨w.heap.size + 1 + 1, 0, none⟩ = some (.bool false)) ∧ Below w.heap.size w W')
            (OwnFrom.and (fun _ _ _ _ hs _ _ => hs) (ownFrom_below (Nat.le_refl _) (Nat.le_refl _)))
            (fun cc => OwnFrom.and (Own.from (fun s A B row hs hg hr => ⟨hs.1, hs.2.1, cell_kept hs.2.2 hg hr⟩) _) (ownFrom_below (Nat.le_refl _) (by omega)))
            ⟨by simp, Below.refl _ _⟩
            (fun x => { tmps := (act.tmps.setIfInBounds 46 (.int .i64 (tl a d x.val))).setIfInBounds 7 (.int .i64 (tl a d x.val)), defers := [] }) ?assign ?body ?done ?stop
          case assign =>
            intro l x W' K hK
            subst hact
            simp only [List.setIfInBounds_toArray, List.set_cons_zero, List.set_cons_succ] at hK
            gi_wp2
            exact hK
          case body =>
            rintro l pre x W' ⟨hp, hB⟩ hlen
            subst hact
            simp only [List.setIfInBounds_toArray, List.set_cons_zero, List.set_cons_succ]
            obtain ⟨t, ht⟩ : ∃ t : Nat, t = a + (x.val + 1) * d := ⟨_, rfl⟩
            have htl : tl a d x.val = (t : Int) := by rw [tl_eq, ht]
            have htt : Hid (t < W * H) := hid (by rw [ht, HD.out]; exact mid_tile hW1 HB0.out HL.out.1 (by rw [← HD.out, ← HC.out]; exact x.isLt))
            have HTX := hid ht
            have HP := hid hp
            rw [htl]
            have HW := hid (HV6.out.stays hB)
            have hsW := hB.size
            have HBW := hid hB
            have c0 := HW.out.bx.c0
            have c1 := HW.out.bx.c1
            have c2 := HW.out.bx.c2
            obtain ⟨st, hst⟩ : ∃ q, q = slope W Z t := ⟨_, rfl⟩
            obtain ⟨mt, hmt⟩ : ∃ q, q = base W Z t := ⟨_, rfl⟩
            have HST := hid hst
            have HMT := hid hmt
            have htop : Hid (topP st mt = top W Z t) := hid (by rw [hst, hmt]; exact topP_top HG.out htt.out)
            have hmt2 : 0 ≤ mt ∧ mt ≤ 15 := by rw [hmt]; exact base_high HG.out htt.out
            clear ht htl hp hst hmt hB hlen
            gi_wp2_with (gi_at_call 84; refine (CallsIn.inRound l (callsIn_wide.2 (look_any W H ao n cap Z HG.out t htt.out _ HW.out.bx.ints))).mono ?_; rw [← HST.out, ← HMT.out]; rintro e w7 ⟨rfl, hb7⟩; have H7 := hid (HW.out.stays hb7); have d0 := H7.out.bx.d0; have p1 := cell_of_row w7 p 1 _ _ _ H7.out.hp; have hpz := heap_lt H7.out.hp; have hdz := H7.out.bx.size; simp only [List.getElem?_toArray, List.getElem?_cons_zero, List.getElem?_cons_succ] at p1; clear c0 c1 c2)
            have hbx := World.alloc_heap_new w7 (.cells #[.int .i64 st, .int .i64 mt] 88)
            have H9 := hid (H7.out.stays (Joins.below_alloc1 w7 (.cells #[.int .i64 st, .int .i64 mt] 88)))
            have HB9 := hid (hb7.trans ((Joins.below_alloc1 w7 (.cells #[.int .i64 st, .int .i64 mt] 88)).mono hb7.size))
            clear d0 p1 hpz hdz H7 HW hb7
            generalize World.alloc w7 _ = w9 at hbx H9 HB9 ⊢
            generalize w7.heap.size = g at hbx ⊢
            have HG9 := hid (LG.mk (g := g) H9.out HB9.out hbx)
            obtain ⟨tp, htp⟩ : ∃ q, q = topP st mt := ⟨_, rfl⟩
            have HTP := hid htp
            clear htp hbx H9 HB9
            by_cases hok : tp ≤ ma
            · have hgt : decide (ma < tp) = false := by simp; omega
              have hgt2 : ¬ ma < tp := by omega
              refine wpIn_region_round (S := (fun wz => LG p q sa ma sb mb W H ao n cap Z 0 a b u g st mt w W' wz ∧ wz.cell? ⟨w.heap.size + 1, 0, none⟩ = some (.int .i64 0) ∧ wz.cell? ⟨p, 1, none⟩ = some (.int .i64 ma) ∧ wz.cell? ⟨g, 0, none⟩ = some (.int .i64 st) ∧ wz.cell? ⟨g, 1, none⟩ = some (.int .i64 mt))) (by kernel_rfl) (by kernel_rfl) (by rintro ⟨a, w, h⟩; exact h) (lg_keep (And.intro HG9.out trivial) ((Below.refl _ _).drew)) (fun hHeld => ?_)
              refine wpAnyH_take (i := 0) (oi := { dst := some 50, op := Op.fieldAddr 26 (Operand.tmp 3) 0, type := 0, pos := "span.go:78", after := #[], guard := none }) (v := ?_) rfl (by kernel_rfl) (by kernel_rfl) (by kernel_rfl) (fun _ _ _ h => h) (Or.inl ⟨by rfl, ?_⟩) (by assumption) ?_
              rotate_left
              · intro w hSw; (try dsimp only at hSw); go_simp; try (with_reducible rfl)
              try simp only [Act.put, List.setIfInBounds_toArray, List.set_cons_zero, List.set_cons_succ]
              refine wpAnyH_take (i := 1) (oi := { dst := some 51, op := Op.load 3 (Operand.tmp 50), type := 3, pos := "span.go:78", after := #[{ on := 0, ground := Ground.data }], guard := none }) (v := ?_) rfl (by kernel_rfl) (by kernel_rfl) (by kernel_rfl) (fun _ _ _ h => h) (Or.inl ⟨by rfl, ?_⟩) (by assumption) ?_
              rotate_left
              · intro w hSw; (try dsimp only at hSw); go_simp; try (with_reducible rfl)
              try simp only [Act.put, List.setIfInBounds_toArray, List.set_cons_zero, List.set_cons_succ]
              refine wpAnyH_take (i := 2) (oi := { dst := some 52, op := Op.binOp BinOp.eql 3 (Operand.tmp 51) (Operand.const (Value.int IntKind.i64 0)) 3, type := 4, pos := "span.go:78", after := #[{ on := 1, ground := Ground.data }], guard := none }) (v := ?_) rfl (by kernel_rfl) (by kernel_rfl) (by kernel_rfl) (fun _ _ _ h => h) (Or.inl ⟨by rfl, ?_⟩) (by assumption) ?_
              rotate_left
              · intro w hSw; (try dsimp only at hSw); go_simp; try (with_reducible rfl)
              try simp only [Act.put, List.setIfInBounds_toArray, List.set_cons_zero, List.set_cons_succ]
              refine wpAnyH_take (i := 3) (oi := { dst := some 53, op := Op.move (Operand.tmp 52), type := 4, pos := "span.go:78", after := #[{ on := 2, ground := Ground.data }], guard := none }) (v := ?_) rfl (by kernel_rfl) (by kernel_rfl) (by kernel_rfl) (fun _ _ _ h => h) (Or.inl ⟨by rfl, ?_⟩) (by assumption) ?_
              rotate_left
              · intro w hSw; (try dsimp only at hSw); go_simp; try (with_reducible rfl)
              try simp only [Act.put, List.setIfInBounds_toArray, List.set_cons_zero, List.set_cons_succ]
              refine wpAnyH_take (i := 4) (oi := { dst := some 54, op := Op.load 88 (Operand.tmp 8), type := 88, pos := "span.go:78", after := #[{ on := 3, ground := Ground.guard }], guard := some (3, true) }) (v := ?_) rfl (by kernel_rfl) (by kernel_rfl) (by kernel_rfl) (fun _ _ _ h => h) (Or.inl ⟨by rfl, ?_⟩) (by assumption) ?_
              rotate_left
              · intro w hSw; (try dsimp only at hSw); go_simp; try (with_reducible rfl)
              try simp only [Act.put, List.setIfInBounds_toArray, List.set_cons_zero, List.set_cons_succ]
              refine wpAnyH_take (i := 6) (oi := { dst := some 56, op := Op.fieldAddr 88 (Operand.tmp 5) 1, type := 0, pos := "span.go:78", after := #[{ on := 3, ground := Ground.guard }], guard := some (3, true) }) (v := ?_) rfl (by kernel_rfl) (by kernel_rfl) (by kernel_rfl) (fun _ _ _ h => h) (Or.inl ⟨by rfl, ?_⟩) (by assumption) ?_
              rotate_left
              · intro w hSw; (try dsimp only at hSw); go_simp; try (with_reducible rfl)
              try simp only [Act.put, List.setIfInBounds_toArray, List.set_cons_zero, List.set_cons_succ]
              refine wpAnyH_take (i := 7) (oi := { dst := some 57, op := Op.load 3 (Operand.tmp 56), type := 3, pos := "span.go:78", after := #[{ on := 6, ground := Ground.data }, { on := 3, ground := Ground.guard }], guard := some (3, true) }) (v := ?_) rfl (by kernel_rfl) (by kernel_rfl) (by kernel_rfl) (fun _ _ _ h => h) (Or.inl ⟨by rfl, ?_⟩) (by assumption) ?_
              rotate_left
              · intro w hSw; (try dsimp only at hSw); go_simp; try (with_reducible rfl)
              try simp only [Act.put, List.setIfInBounds_toArray, List.set_cons_zero, List.set_cons_succ]
              refine wpAnyH_ready (rs := [5]) (by kernel_rfl) (by simp) ?_
              refine AllReadyH.cons (o := { dst := some 55, op := Op.call { callee := Callee.value (Operand.func 86), args := #[Operand.tmp 54], argTypes := #[88] }, type := 3, pos := "span.go:78", after := #[{ on := 4, ground := Ground.data }, { on := 3, ground := Ground.chain }, { on := 3, ground := Ground.guard }], guard := some (3, true) }) rfl (fun K hK => ?_) AllReadyH.nil
              go_simp
              refine (top_any st mt hmt2 _).mono ?_
              rw [← HTP.out]
              rintro e wz ⟨rfl, hb⟩
              try go_wp2_with fail
              refine hK.out _ _ (lg_keep (by assumption) hb) (fun hHeld2 => ?_)
              clear hK K
              try simp only [Act.put, List.setIfInBounds_toArray, List.set_cons_zero, List.set_cons_succ]
              refine wpAnyH_take (i := 8) (oi := { dst := some 58, op := Op.binOp BinOp.gtr 3 (Operand.tmp 55) (Operand.tmp 57) 3, type := 4, pos := "span.go:78", after := #[{ on := 5, ground := Ground.data }, { on := 7, ground := Ground.data }, { on := 3, ground := Ground.guard }], guard := some (3, true) }) (v := ?_) rfl (by kernel_rfl) (by kernel_rfl) (by kernel_rfl) (fun _ _ _ h => h) (Or.inl ⟨by rfl, ?_⟩) (by assumption) ?_
              rotate_left
              · intro w hSw; (try dsimp only at hSw); go_simp; try (with_reducible rfl)
              try simp only [Act.put, List.setIfInBounds_toArray, List.set_cons_zero, List.set_cons_succ]
              refine wpAnyH_take (i := 9) (oi := { dst := some 59, op := Op.pick (Operand.tmp 53) (Operand.tmp 58) (Operand.const (Value.bool false)), type := 4, pos := "span.go:78", after := #[{ on := 3, ground := Ground.data }, { on := 8, ground := Ground.data }], guard := none }) (v := ?_) rfl (by kernel_rfl) (by kernel_rfl) (by kernel_rfl) (fun _ _ _ h => h) (Or.inl ⟨by rfl, ?_⟩) (by assumption) ?_
              rotate_left
              · intro w hSw; (try dsimp only at hSw); go_simp; try (with_reducible rfl)
              try simp only [Act.put, List.setIfInBounds_toArray, List.set_cons_zero, List.set_cons_succ]
              refine wpAnyH_take (i := 10) (oi := { dst := some 60, op := Op.move (Operand.tmp 59), type := 4, pos := "span.go:78", after := #[{ on := 9, ground := Ground.data }, { on := 5, ground := Ground.chain }], guard := none }) (v := ?_) rfl (by kernel_rfl) (by kernel_rfl) (by kernel_rfl) (fun _ _ _ h => h) (Or.inl ⟨by rfl, ?_⟩) (by assumption) ?_
              rotate_left
              · intro w hSw; (try dsimp only at hSw); go_simp; try (with_reducible rfl)
              try simp only [Act.put, List.setIfInBounds_toArray, List.set_cons_zero, List.set_cons_succ]
              refine wpAnyH_take (i := 11) (oi := { dst := some 61, op := Op.fieldAddr 26 (Operand.tmp 3) 0, type := 0, pos := "span.go:78", after := #[{ on := 10, ground := Ground.guard }], guard := some (10, false) }) (v := ?_) rfl (by kernel_rfl) (by kernel_rfl) (by kernel_rfl) (fun _ _ _ h => h) (Or.inl ⟨by rfl, ?_⟩) (by assumption) ?_
              rotate_left
              · intro w hSw; (try dsimp only at hSw); go_simp; try (with_reducible rfl)
              try simp only [Act.put, List.setIfInBounds_toArray, List.set_cons_zero, List.set_cons_succ]
              refine wpAnyH_take (i := 12) (oi := { dst := some 62, op := Op.load 3 (Operand.tmp 61), type := 3, pos := "span.go:78", after := #[{ on := 11, ground := Ground.data }, { on := 10, ground := Ground.guard }], guard := some (10, false) }) (v := ?_) rfl (by kernel_rfl) (by kernel_rfl) (by kernel_rfl) (fun _ _ _ h => h) (Or.inl ⟨by rfl, ?_⟩) (by assumption) ?_
              rotate_left
              · intro w hSw; (try dsimp only at hSw); go_simp; try (with_reducible rfl)
              try simp only [Act.put, List.setIfInBounds_toArray, List.set_cons_zero, List.set_cons_succ]
              refine wpAnyH_take (i := 13) (oi := { dst := some 63, op := Op.binOp BinOp.eql 3 (Operand.tmp 62) (Operand.const (Value.int IntKind.i64 1)) 3, type := 4, pos := "span.go:78", after := #[{ on := 12, ground := Ground.data }, { on := 10, ground := Ground.guard }], guard := some (10, false) }) (v := ?_) rfl (by kernel_rfl) (by kernel_rfl) (by kernel_rfl) (fun _ _ _ h => h) (Or.inl ⟨by rfl, ?_⟩) (by assumption) ?_
              rotate_left
              · intro w hSw; (try dsimp only at hSw); go_simp; try (with_reducible rfl)
              try simp only [Act.put, List.setIfInBounds_toArray, List.set_cons_zero, List.set_cons_succ]
              refine wpAnyH_take (i := 14) (oi := { dst := some 64, op := Op.move (Operand.tmp 63), type := 4, pos := "span.go:78", after := #[{ on := 13, ground := Ground.data }, { on := 10, ground := Ground.chain }, { on := 10, ground := Ground.guard }], guard := some (10, false) }) (v := ?_) rfl (by kernel_rfl) (by kernel_rfl) (by kernel_rfl) (fun _ _ _ h => h) (Or.inl ⟨by rfl, ?_⟩) (by assumption) ?_
              rotate_left
              · intro w hSw; (try dsimp only at hSw); go_simp; try (with_reducible rfl)
              try simp only [Act.put, List.setIfInBounds_toArray, List.set_cons_zero, List.set_cons_succ]
              refine wpAnyH_take (i := 15) (oi := { dst := some 65, op := Op.fieldAddr 88 (Operand.tmp 8) 1, type := 0, pos := "span.go:78", after := #[{ on := 14, ground := Ground.guard }], guard := some (14, true) }) (v := undef) rfl (by kernel_rfl) (by kernel_rfl) (by kernel_rfl) (fun _ _ _ h => h) (Or.inr ⟨by rfl, rfl⟩) (by assumption) ?_
              try simp only [Act.put, List.setIfInBounds_toArray, List.set_cons_zero, List.set_cons_succ]
              refine wpAnyH_take (i := 16) (oi := { dst := some 66, op := Op.load 3 (Operand.tmp 65), type := 3, pos := "span.go:78", after := #[{ on := 15, ground := Ground.data }, { on := 14, ground := Ground.guard }], guard := some (14, true) }) (v := undef) rfl (by kernel_rfl) (by kernel_rfl) (by kernel_rfl) (fun _ _ _ h => h) (Or.inr ⟨by rfl, rfl⟩) (by assumption) ?_
              try simp only [Act.put, List.setIfInBounds_toArray, List.set_cons_zero, List.set_cons_succ]
              refine wpAnyH_take (i := 17) (oi := { dst := some 67, op := Op.fieldAddr 88 (Operand.tmp 5) 1, type := 0, pos := "span.go:78", after := #[{ on := 14, ground := Ground.guard }], guard := some (14, true) }) (v := undef) rfl (by kernel_rfl) (by kernel_rfl) (by kernel_rfl) (fun _ _ _ h => h) (Or.inr ⟨by rfl, rfl⟩) (by assumption) ?_
              try simp only [Act.put, List.setIfInBounds_toArray, List.set_cons_zero, List.set_cons_succ]
              refine wpAnyH_take (i := 18) (oi := { dst := some 68, op := Op.load 3 (Operand.tmp 67), type := 3, pos := "span.go:78", after := #[{ on := 17, ground := Ground.data }, { on := 14, ground := Ground.guard }], guard := some (14, true) }) (v := undef) rfl (by kernel_rfl) (by kernel_rfl) (by kernel_rfl) (fun _ _ _ h => h) (Or.inr ⟨by rfl, rfl⟩) (by assumption) ?_
              try simp only [Act.put, List.setIfInBounds_toArray, List.set_cons_zero, List.set_cons_succ]
              refine wpAnyH_take (i := 19) (oi := { dst := some 69, op := Op.binOp BinOp.leq 3 (Operand.tmp 66) (Operand.tmp 68) 3, type := 4, pos := "span.go:78", after := #[{ on := 16, ground := Ground.data }, { on := 18, ground := Ground.data }, { on := 14, ground := Ground.guard }], guard := some (14, true) }) (v := undef) rfl (by kernel_rfl) (by kernel_rfl) (by kernel_rfl) (fun _ _ _ h => h) (Or.inr ⟨by rfl, rfl⟩) (by assumption) ?_
              try simp only [Act.put, List.setIfInBounds_toArray, List.set_cons_zero, List.set_cons_succ]
              refine wpAnyH_take (i := 20) (oi := { dst := some 70, op := Op.pick (Operand.tmp 64) (Operand.tmp 69) (Operand.const (Value.bool false)), type := 4, pos := "span.go:78", after := #[{ on := 14, ground := Ground.data }, { on := 19, ground := Ground.data }, { on := 10, ground := Ground.guard }], guard := some (10, false) }) (v := ?_) rfl (by kernel_rfl) (by kernel_rfl) (by kernel_rfl) (fun _ _ _ h => h) (Or.inl ⟨by rfl, ?_⟩) (by assumption) ?_
              rotate_left
              · intro w hSw; (try dsimp only at hSw); go_simp; try (with_reducible rfl)
              try simp only [Act.put, List.setIfInBounds_toArray, List.set_cons_zero, List.set_cons_succ]
              refine wpAnyH_take (i := 21) (oi := { dst := some 71, op := Op.pick (Operand.tmp 60) (Operand.const (Value.bool true)) (Operand.tmp 70), type := 4, pos := "span.go:78", after := #[{ on := 10, ground := Ground.data }, { on := 20, ground := Ground.data }], guard := none }) (v := ?_) rfl (by kernel_rfl) (by kernel_rfl) (by kernel_rfl) (fun _ _ _ h => h) (Or.inl ⟨by rfl, ?_⟩) (by assumption) ?_
              rotate_left
              · intro w hSw; (try dsimp only at hSw); go_simp; try (with_reducible rfl)
              try simp only [Act.put, List.setIfInBounds_toArray, List.set_cons_zero, List.set_cons_succ]
              refine wpAnyH_done (by kernel_rfl) ?_ _
              refine NoPanic.normal ?_
              gi_wp2
              have HZ := lg_of (by assumption)
              exact ⟨below_others HZ.bel, HZ.bel.mono (by omega), ⟨fun i hi => (List.mem_append.1 hi).elim (HP.out i) (fun e => by simp at e; subst e; rw [← HTX.out]; exact ⟨fun _ => (by rw [← htop.out, ← HTP.out]; exact hok), fun e => by cases e⟩), HBW.out.trans (HZ.bel.mono hsW)⟩⟩
            · have hgt : decide (ma < tp) = true := by simp; omega
              have hgt2 : ma < tp := by omega
              refine wpIn_region_round (S := (fun wz => LG p q sa ma sb mb W H ao n cap Z 0 a b u g st mt w W' wz ∧ wz.cell? ⟨w.heap.size + 1, 0, none⟩ = some (.int .i64 0) ∧ wz.cell? ⟨p, 1, none⟩ = some (.int .i64 ma) ∧ wz.cell? ⟨g, 0, none⟩ = some (.int .i64 st) ∧ wz.cell? ⟨g, 1, none⟩ = some (.int .i64 mt))) (by kernel_rfl) (by kernel_rfl) (by rintro ⟨a, w, h⟩; exact h) (lg_keep (And.intro HG9.out trivial) ((Below.refl _ _).drew)) (fun hHeld => ?_)
              refine wpAnyH_take (i := 0) (oi := { dst := some 50, op := Op.fieldAddr 26 (Operand.tmp 3) 0, type := 0, pos := "span.go:78", after := #[], guard := none }) (v := ?_) rfl (by kernel_rfl) (by kernel_rfl) (by kernel_rfl) (fun _ _ _ h => h) (Or.inl ⟨by rfl, ?_⟩) (by assumption) ?_
              rotate_left
              · intro w hSw; (try dsimp only at hSw); go_simp; try (with_reducible rfl)
              try simp only [Act.put, List.setIfInBounds_toArray, List.set_cons_zero, List.set_cons_succ]
              refine wpAnyH_take (i := 1) (oi := { dst := some 51, op := Op.load 3 (Operand.tmp 50), type := 3, pos := "span.go:78", after := #[{ on := 0, ground := Ground.data }], guard := none }) (v := ?_) rfl (by kernel_rfl) (by kernel_rfl) (by kernel_rfl) (fun _ _ _ h => h) (Or.inl ⟨by rfl, ?_⟩) (by assumption) ?_
              rotate_left
              · intro w hSw; (try dsimp only at hSw); go_simp; try (with_reducible rfl)
              try simp only [Act.put, List.setIfInBounds_toArray, List.set_cons_zero, List.set_cons_succ]
              refine wpAnyH_take (i := 2) (oi := { dst := some 52, op := Op.binOp BinOp.eql 3 (Operand.tmp 51) (Operand.const (Value.int IntKind.i64 0)) 3, type := 4, pos := "span.go:78", after := #[{ on := 1, ground := Ground.data }], guard := none }) (v := ?_) rfl (by kernel_rfl) (by kernel_rfl) (by kernel_rfl) (fun _ _ _ h => h) (Or.inl ⟨by rfl, ?_⟩) (by assumption) ?_
              rotate_left
              · intro w hSw; (try dsimp only at hSw); go_simp; try (with_reducible rfl)
              try simp only [Act.put, List.setIfInBounds_toArray, List.set_cons_zero, List.set_cons_succ]
              refine wpAnyH_take (i := 3) (oi := { dst := some 53, op := Op.move (Operand.tmp 52), type := 4, pos := "span.go:78", after := #[{ on := 2, ground := Ground.data }], guard := none }) (v := ?_) rfl (by kernel_rfl) (by kernel_rfl) (by kernel_rfl) (fun _ _ _ h => h) (Or.inl ⟨by rfl, ?_⟩) (by assumption) ?_
              rotate_left
              · intro w hSw; (try dsimp only at hSw); go_simp; try (with_reducible rfl)
              try simp only [Act.put, List.setIfInBounds_toArray, List.set_cons_zero, List.set_cons_succ]
              refine wpAnyH_take (i := 4) (oi := { dst := some 54, op := Op.load 88 (Operand.tmp 8), type := 88, pos := "span.go:78", after := #[{ on := 3, ground := Ground.guard }], guard := some (3, true) }) (v := ?_) rfl (by kernel_rfl) (by kernel_rfl) (by kernel_rfl) (fun _ _ _ h => h) (Or.inl ⟨by rfl, ?_⟩) (by assumption) ?_
              rotate_left
              · intro w hSw; (try dsimp only at hSw); go_simp; try (with_reducible rfl)
              try simp only [Act.put, List.setIfInBounds_toArray, List.set_cons_zero, List.set_cons_succ]
              refine wpAnyH_take (i := 6) (oi := { dst := some 56, op := Op.fieldAddr 88 (Operand.tmp 5) 1, type := 0, pos := "span.go:78", after := #[{ on := 3, ground := Ground.guard }], guard := some (3, true) }) (v := ?_) rfl (by kernel_rfl) (by kernel_rfl) (by kernel_rfl) (fun _ _ _ h => h) (Or.inl ⟨by rfl, ?_⟩) (by assumption) ?_
              rotate_left
              · intro w hSw; (try dsimp only at hSw); go_simp; try (with_reducible rfl)
              try simp only [Act.put, List.setIfInBounds_toArray, List.set_cons_zero, List.set_cons_succ]
              refine wpAnyH_take (i := 7) (oi := { dst := some 57, op := Op.load 3 (Operand.tmp 56), type := 3, pos := "span.go:78", after := #[{ on := 6, ground := Ground.data }, { on := 3, ground := Ground.guard }], guard := some (3, true) }) (v := ?_) rfl (by kernel_rfl) (by kernel_rfl) (by kernel_rfl) (fun _ _ _ h => h) (Or.inl ⟨by rfl, ?_⟩) (by assumption) ?_
              rotate_left
              · intro w hSw; (try dsimp only at hSw); go_simp; try (with_reducible rfl)
              try simp only [Act.put, List.setIfInBounds_toArray, List.set_cons_zero, List.set_cons_succ]
              refine wpAnyH_ready (rs := [5]) (by kernel_rfl) (by simp) ?_
              refine AllReadyH.cons (o := { dst := some 55, op := Op.call { callee := Callee.value (Operand.func 86), args := #[Operand.tmp 54], argTypes := #[88] }, type := 3, pos := "span.go:78", after := #[{ on := 4, ground := Ground.data }, { on := 3, ground := Ground.chain }, { on := 3, ground := Ground.guard }], guard := some (3, true) }) rfl (fun K hK => ?_) AllReadyH.nil
              go_simp
              refine (top_any st mt hmt2 _).mono ?_
              rw [← HTP.out]
              rintro e wz ⟨rfl, hb⟩
              try go_wp2_with fail
              refine hK.out _ _ (lg_keep (by assumption) hb) (fun hHeld2 => ?_)
              clear hK K
              try simp only [Act.put, List.setIfInBounds_toArray, List.set_cons_zero, List.set_cons_succ]
              refine wpAnyH_take (i := 8) (oi := { dst := some 58, op := Op.binOp BinOp.gtr 3 (Operand.tmp 55) (Operand.tmp 57) 3, type := 4, pos := "span.go:78", after := #[{ on := 5, ground := Ground.data }, { on := 7, ground := Ground.data }, { on := 3, ground := Ground.guard }], guard := some (3, true) }) (v := ?_) rfl (by kernel_rfl) (by kernel_rfl) (by kernel_rfl) (fun _ _ _ h => h) (Or.inl ⟨by rfl, ?_⟩) (by assumption) ?_
              rotate_left
              · intro w hSw; (try dsimp only at hSw); go_simp; try (with_reducible rfl)
              try simp only [Act.put, List.setIfInBounds_toArray, List.set_cons_zero, List.set_cons_succ]
              refine wpAnyH_take (i := 9) (oi := { dst := some 59, op := Op.pick (Operand.tmp 53) (Operand.tmp 58) (Operand.const (Value.bool false)), type := 4, pos := "span.go:78", after := #[{ on := 3, ground := Ground.data }, { on := 8, ground := Ground.data }], guard := none }) (v := ?_) rfl (by kernel_rfl) (by kernel_rfl) (by kernel_rfl) (fun _ _ _ h => h) (Or.inl ⟨by rfl, ?_⟩) (by assumption) ?_
              rotate_left
              · intro w hSw; (try dsimp only at hSw); go_simp; try (with_reducible rfl)
              try simp only [Act.put, List.setIfInBounds_toArray, List.set_cons_zero, List.set_cons_succ]
              refine wpAnyH_take (i := 10) (oi := { dst := some 60, op := Op.move (Operand.tmp 59), type := 4, pos := "span.go:78", after := #[{ on := 9, ground := Ground.data }, { on := 5, ground := Ground.chain }], guard := none }) (v := ?_) rfl (by kernel_rfl) (by kernel_rfl) (by kernel_rfl) (fun _ _ _ h => h) (Or.inl ⟨by rfl, ?_⟩) (by assumption) ?_
              rotate_left
              · intro w hSw; (try dsimp only at hSw); go_simp; try (with_reducible rfl)
              try simp only [Act.put, List.setIfInBounds_toArray, List.set_cons_zero, List.set_cons_succ]
              refine wpAnyH_take (i := 11) (oi := { dst := some 61, op := Op.fieldAddr 26 (Operand.tmp 3) 0, type := 0, pos := "span.go:78", after := #[{ on := 10, ground := Ground.guard }], guard := some (10, false) }) (v := undef) rfl (by kernel_rfl) (by kernel_rfl) (by kernel_rfl) (fun _ _ _ h => h) (Or.inr ⟨by rfl, rfl⟩) (by assumption) ?_
              try simp only [Act.put, List.setIfInBounds_toArray, List.set_cons_zero, List.set_cons_succ]
              refine wpAnyH_take (i := 12) (oi := { dst := some 62, op := Op.load 3 (Operand.tmp 61), type := 3, pos := "span.go:78", after := #[{ on := 11, ground := Ground.data }, { on := 10, ground := Ground.guard }], guard := some (10, false) }) (v := undef) rfl (by kernel_rfl) (by kernel_rfl) (by kernel_rfl) (fun _ _ _ h => h) (Or.inr ⟨by rfl, rfl⟩) (by assumption) ?_
              try simp only [Act.put, List.setIfInBounds_toArray, List.set_cons_zero, List.set_cons_succ]
              refine wpAnyH_take (i := 13) (oi := { dst := some 63, op := Op.binOp BinOp.eql 3 (Operand.tmp 62) (Operand.const (Value.int IntKind.i64 1)) 3, type := 4, pos := "span.go:78", after := #[{ on := 12, ground := Ground.data }, { on := 10, ground := Ground.guard }], guard := some (10, false) }) (v := undef) rfl (by kernel_rfl) (by kernel_rfl) (by kernel_rfl) (fun _ _ _ h => h) (Or.inr ⟨by rfl, rfl⟩) (by assumption) ?_
              try simp only [Act.put, List.setIfInBounds_toArray, List.set_cons_zero, List.set_cons_succ]
              refine wpAnyH_take (i := 14) (oi := { dst := some 64, op := Op.move (Operand.tmp 63), type := 4, pos := "span.go:78", after := #[{ on := 13, ground := Ground.data }, { on := 10, ground := Ground.chain }, { on := 10, ground := Ground.guard }], guard := some (10, false) }) (v := undef) rfl (by kernel_rfl) (by kernel_rfl) (by kernel_rfl) (fun _ _ _ h => h) (Or.inr ⟨by rfl, rfl⟩) (by assumption) ?_
              try simp only [Act.put, List.setIfInBounds_toArray, List.set_cons_zero, List.set_cons_succ]
              refine wpAnyH_take (i := 15) (oi := { dst := some 65, op := Op.fieldAddr 88 (Operand.tmp 8) 1, type := 0, pos := "span.go:78", after := #[{ on := 14, ground := Ground.guard }], guard := some (14, true) }) (v := undef) rfl (by kernel_rfl) (by kernel_rfl) (by kernel_rfl) (fun _ _ _ h => h) (Or.inr ⟨by rfl, rfl⟩) (by assumption) ?_
              try simp only [Act.put, List.setIfInBounds_toArray, List.set_cons_zero, List.set_cons_succ]
              refine wpAnyH_take (i := 16) (oi := { dst := some 66, op := Op.load 3 (Operand.tmp 65), type := 3, pos := "span.go:78", after := #[{ on := 15, ground := Ground.data }, { on := 14, ground := Ground.guard }], guard := some (14, true) }) (v := undef) rfl (by kernel_rfl) (by kernel_rfl) (by kernel_rfl) (fun _ _ _ h => h) (Or.inr ⟨by rfl, rfl⟩) (by assumption) ?_
              try simp only [Act.put, List.setIfInBounds_toArray, List.set_cons_zero, List.set_cons_succ]
              refine wpAnyH_take (i := 17) (oi := { dst := some 67, op := Op.fieldAddr 88 (Operand.tmp 5) 1, type := 0, pos := "span.go:78", after := #[{ on := 14, ground := Ground.guard }], guard := some (14, true) }) (v := undef) rfl (by kernel_rfl) (by kernel_rfl) (by kernel_rfl) (fun _ _ _ h => h) (Or.inr ⟨by rfl, rfl⟩) (by assumption) ?_
              try simp only [Act.put, List.setIfInBounds_toArray, List.set_cons_zero, List.set_cons_succ]
              refine wpAnyH_take (i := 18) (oi := { dst := some 68, op := Op.load 3 (Operand.tmp 67), type := 3, pos := "span.go:78", after := #[{ on := 17, ground := Ground.data }, { on := 14, ground := Ground.guard }], guard := some (14, true) }) (v := undef) rfl (by kernel_rfl) (by kernel_rfl) (by kernel_rfl) (fun _ _ _ h => h) (Or.inr ⟨by rfl, rfl⟩) (by assumption) ?_
              try simp only [Act.put, List.setIfInBounds_toArray, List.set_cons_zero, List.set_cons_succ]
              refine wpAnyH_take (i := 19) (oi := { dst := some 69, op := Op.binOp BinOp.leq 3 (Operand.tmp 66) (Operand.tmp 68) 3, type := 4, pos := "span.go:78", after := #[{ on := 16, ground := Ground.data }, { on := 18, ground := Ground.data }, { on := 14, ground := Ground.guard }], guard := some (14, true) }) (v := undef) rfl (by kernel_rfl) (by kernel_rfl) (by kernel_rfl) (fun _ _ _ h => h) (Or.inr ⟨by rfl, rfl⟩) (by assumption) ?_
              try simp only [Act.put, List.setIfInBounds_toArray, List.set_cons_zero, List.set_cons_succ]
              refine wpAnyH_take (i := 20) (oi := { dst := some 70, op := Op.pick (Operand.tmp 64) (Operand.tmp 69) (Operand.const (Value.bool false)), type := 4, pos := "span.go:78", after := #[{ on := 14, ground := Ground.data }, { on := 19, ground := Ground.data }, { on := 10, ground := Ground.guard }], guard := some (10, false) }) (v := undef) rfl (by kernel_rfl) (by kernel_rfl) (by kernel_rfl) (fun _ _ _ h => h) (Or.inr ⟨by rfl, rfl⟩) (by assumption) ?_
              try simp only [Act.put, List.setIfInBounds_toArray, List.set_cons_zero, List.set_cons_succ]
              refine wpAnyH_take (i := 21) (oi := { dst := some 71, op := Op.pick (Operand.tmp 60) (Operand.const (Value.bool true)) (Operand.tmp 70), type := 4, pos := "span.go:78", after := #[{ on := 10, ground := Ground.data }, { on := 20, ground := Ground.data }], guard := none }) (v := ?_) rfl (by kernel_rfl) (by kernel_rfl) (by kernel_rfl) (fun _ _ _ h => h) (Or.inl ⟨by rfl, ?_⟩) (by assumption) ?_
              rotate_left
              · intro w hSw; (try dsimp only at hSw); go_simp; try (with_reducible rfl)
              try simp only [Act.put, List.setIfInBounds_toArray, List.set_cons_zero, List.set_cons_succ]
              refine wpAnyH_done (by kernel_rfl) ?_ _
              refine NoPanic.normal ?_
              have hrf : r = false := by
                rw [Bool.eq_false_iff]; intro h
                have := (HR.out.1 h).mid x.val (by rw [← HD.out, ← HC.out]; exact x.isLt)
                rw [← HD.out, ← HTX.out] at this
                exact absurd (this.1 rfl) (by rw [← htop.out, ← HTP.out, ← HMA.out]; omega)
              have HZ := lg_of (by assumption)
              have rc := cell_of_row _ _ 0 _ _ _ HZ.lr.rs
              have rf := frozen_of_row _ _ 0 _ _ HZ.lr.rs
              have hrz := heap_lt HZ.lr.rs
              simp only [List.getElem?_toArray, List.getElem?_cons_zero] at rc
              have HZ2 := hid HZ
              have HRF := hid hrf
              clear HZ hrf
              gi_wp2
              exact ⟨(below_others HZ2.out.bel).trans (KeepsOthers.setCell _ _ _), ⟨rfl, HRF.out, World.cell?_setCell_same' _ _ _ (Option.isSome_iff_exists.2 ⟨_, rc⟩)⟩, HZ2.out.lr.bx.below.setCell (p := ⟨w.heap.size + 1 + 1, 0, none⟩) (by show w.heap.size ≤ w.heap.size + 1 + 1; omega) _⟩
          case done =>
            rintro D ys W' hD rfl ⟨hp, hB⟩ hK
            subst hact
            have hrt : r = true := by
              refine HR.out.2 ⟨by rw [← HMA.out, ← HMB.out]; exact HM'.out, by rw [← HSA.out]; exact h2, by rw [← HSB.out]; exact h3, fun e => (by cases e), ?_⟩
              intro i hi
              rw [← HMA.out]
              rw [← HD.out] at hi ⊢
              rw [← HC.out] at hi
              exact hp ⟨i, hi⟩ (List.mem_finRange _)
            subst hrt
            have HW := hid (HV6.out.stays hB)
            have rc := cell_of_row _ _ 0 _ _ _ HW.out.rs
            have rf := frozen_of_row _ _ 0 _ _ HW.out.rs
            have hrz := heap_lt HW.out.rs
            simp only [List.getElem?_toArray, List.getElem?_cons_zero] at rc
            clear hp
            go_wp2
            have hK' := (KeepsOthers.setCell W' ⟨w.heap.size + 1 + 1, 0, none⟩ (.bool true)).same D _ hK rfl
            refine ⟨by simp, .inl ⟨_, _, rfl, run_takeDeferred hK', ?_⟩⟩
            have hc5 := cell_kept (World.cell?_setCell_same' W' ⟨w.heap.size + 1 + 1, 0, none⟩ (.bool true) (by rw [rc]; rfl)) (grownBy_putObj' _ D (.deferred none)) (fun r e => by cases e; exact ⟨_, hK', rfl⟩)
            refine ⟨.bool true, ?_, rfl, (HW.out.bx.below.setCell (p := ⟨w.heap.size + 1 + 1, 0, none⟩) (by show w.heap.size ≤ w.heap.size + 1 + 1; omega) _).trans (belowK_b (w := w) (Nat.le_refl _) _ D _ _ (by omega) hK' rfl rfl)⟩
            simp [results, Try.f68, go_sem, hc5]
          case stop =>
            rintro D cc pre W' hD hpre ⟨⟨rfl, hin, hcr⟩, hB⟩ hK
            subst hact
            subst hin
            gi_wp2
            refine ⟨by simp, .inl ⟨_, _, rfl, run_takeDeferred hK, ?_⟩⟩
            have hc5 := cell_kept hcr (grownBy_putObj' _ D (.deferred none)) (fun r e => by cases e; exact ⟨_, hK, rfl⟩)
            refine ⟨.bool false, ?_, rfl, hB.trans (belowK_b (w := w) (Nat.le_refl _) W' D _ _ (by omega) hK rfl rfl)⟩
            simp [results, Try.f68, go_sem, hc5]
        · have HF1 := HF
          have HFT : Hid (true = true ↔ if InRow W a b then sa = 6 ∧ sb = 9 else sa = 12 ∧ sb = 3) := hid ⟨fun _ => (by have := HF.out rfl; unfold Face at this; rw [← HSA.out, ← HSB.out] at this; exact this), fun _ => rfl⟩
          go_wp2_with (first | (go_at_call 85; refine (faces_any W H hW1 hW2 _ _ u a b (by omega) (by omega) sa ma sb mb true HFT.out _).mono ?_; rintro e w5 ⟨rfl, hb5⟩; have HV5 := hid (HV.out.stays hb5); clear hb5 c0 c1 c2 d0 d1 d2 d3 p0 p1 q0 q1 rc rf hpz hqz hrz; have c0 := HV5.out.bx.c0; have c1 := HV5.out.bx.c1; have c2 := HV5.out.bx.c2; have d0 := HV5.out.bx.d0; have d1 := HV5.out.bx.d1; have d2 := HV5.out.bx.d2; have d3 := HV5.out.bx.d3) | (go_at_call 50; refine (between_any W H _ 1 a b u _).mono ?_; rintro e w6 ⟨rfl, hw6⟩))
          clear HV
          have HV := HV5
          clear HV5
          have HV6 := hid (HV.out.stays (Joins.below_alloc2 _ (.cells #[.int .i64 W, .int .i64 H, .slice ao n cap] 24) (.cells #[.int .i64 1, .int .i64 a, .int .i64 b, .int .i64 u] 26)))
          have HM6 := hid (mb_start (W := W) (H := H) (cap := cap) (k := 1) (a := a) (b := b) (u := u) HV.out.bx.ints)
          rw [hw6] at HV6 HM6
          clear hw6 c0 c1 c2 d0 d1 d2 d3
          try clear p0 p1 q0 q1 rc rf hpz hqz hrz
          have HS6 := HM6.out.size
          refine (wpIn_wide (n := 9)).1 ?_
          generalize hact : Act.mk _ _ = act
          have HB0' := hid hb0
          have HL := hid hl
          have hsz6 : w5.heap.size + 1 < w6.heap.size := HM6.out.size
          have hszb : w.heap.size + 1 + 1 < w5.heap.size := heap_lt HV.out.rs
          obtain ⟨d, hd⟩ : ∃ d, d = stp W a b := ⟨_, rfl⟩
          obtain ⟨c, hc⟩ : ∃ c, c = cnt d a b := ⟨_, rfl⟩
          have HD := hid hd
          have HC := hid hc
          clear hd hc hb0 ha
          refine wpIn_rangeFunc_ownF (a := act) rfl (by omega : 1 ≤ 9) (gf := 74) (lb := #[.pointer (some ⟨w5.heap.size, 0, none⟩), .pointer (some ⟨w5.heap.size + 1, 0, none⟩)]) (by rw [← hact]; rfl) trivial (enters_of Try.func74 (by kernel_rfl) rfl)
            (iter_stops _ hW1 hW2 (by have := HA.out; omega) (by have := HB0.out; omega) hl d c HD.out HC.out HM6.out (A := w5.heap.size) rfl) belowK_t (belowK_b (by omega)) (Below.refl _ _) (fun _ => rfl)
            (fun pre W' => (∀ i ∈ pre, MidOk W Z 1 ma (a + (i.val + 1) * d)) ∧ Below w6.heap.size w6 W')
            (fun cc _ W' => (cc = .ret ∧ r = false ∧ W'.cell? ⟨w.heap.size + 1 + 1, 0, none⟩ = some (.bool false)) ∧ Below w.heap.size w W')
            (OwnFrom.and (fun _ _ _ _ hs _ _ => hs) (ownFrom_below (Nat.le_refl _) (Nat.le_refl _)))
            (fun cc => OwnFrom.and (Own.from (fun s A B row hs hg hr => ⟨hs.1, hs.2.1, cell_kept hs.2.2 hg hr⟩) _) (ownFrom_below (Nat.le_refl _) (by omega)))
            ⟨by simp, Below.refl _ _⟩
            (fun x => { tmps := (act.tmps.setIfInBounds 46 (.int .i64 (tl a d x.val))).setIfInBounds 7 (.int .i64 (tl a d x.val)), defers := [] }) ?assign ?body ?done ?stop
          case assign =>
            intro l x W' K hK
            subst hact
            simp only [List.setIfInBounds_toArray, List.set_cons_zero, List.set_cons_succ] at hK
            gi_wp2
            exact hK
          case body =>
            rintro l pre x W' ⟨hp, hB⟩ hlen
            subst hact
            simp only [List.setIfInBounds_toArray, List.set_cons_zero, List.set_cons_succ]
            obtain ⟨t, ht⟩ : ∃ t : Nat, t = a + (x.val + 1) * d := ⟨_, rfl⟩
            have htl : tl a d x.val = (t : Int) := by rw [tl_eq, ht]
            have htt : Hid (t < W * H) := hid (by rw [ht, HD.out]; exact mid_tile hW1 HB0.out HL.out.1 (by rw [← HD.out, ← HC.out]; exact x.isLt))
            have HTX := hid ht
            have HP := hid hp
            rw [htl]
            have HW := hid (HV6.out.stays hB)
            have hsW := hB.size
            have HBW := hid hB
            have c0 := HW.out.bx.c0
            have c1 := HW.out.bx.c1
            have c2 := HW.out.bx.c2
            obtain ⟨st, hst⟩ : ∃ q, q = slope W Z t := ⟨_, rfl⟩
            obtain ⟨mt, hmt⟩ : ∃ q, q = base W Z t := ⟨_, rfl⟩
            have HST := hid hst
            have HMT := hid hmt
            have htop : Hid (topP st mt = top W Z t) := hid (by rw [hst, hmt]; exact topP_top HG.out htt.out)
            have hmt2 : 0 ≤ mt ∧ mt ≤ 15 := by rw [hmt]; exact base_high HG.out htt.out
            clear ht htl hp hst hmt hB hlen
            gi_wp2_with (gi_at_call 84; refine (CallsIn.inRound l (callsIn_wide.2 (look_any W H ao n cap Z HG.out t htt.out _ HW.out.bx.ints))).mono ?_; rw [← HST.out, ← HMT.out]; rintro e w7 ⟨rfl, hb7⟩; have H7 := hid (HW.out.stays hb7); have d0 := H7.out.bx.d0; have p1 := cell_of_row w7 p 1 _ _ _ H7.out.hp; have hpz := heap_lt H7.out.hp; have hdz := H7.out.bx.size; simp only [List.getElem?_toArray, List.getElem?_cons_zero, List.getElem?_cons_succ] at p1; clear c0 c1 c2)
            have hbx := World.alloc_heap_new w7 (.cells #[.int .i64 st, .int .i64 mt] 88)
            have H9 := hid (H7.out.stays (Joins.below_alloc1 w7 (.cells #[.int .i64 st, .int .i64 mt] 88)))
            have HB9 := hid (hb7.trans ((Joins.below_alloc1 w7 (.cells #[.int .i64 st, .int .i64 mt] 88)).mono hb7.size))
            clear d0 p1 hpz hdz H7 HW hb7
            generalize World.alloc w7 _ = w9 at hbx H9 HB9 ⊢
            generalize w7.heap.size = g at hbx ⊢
            have HG9 := hid (LG.mk (g := g) H9.out HB9.out hbx)
            obtain ⟨tp, htp⟩ : ∃ q, q = topP st mt := ⟨_, rfl⟩
            have HTP := hid htp
            clear htp hbx H9 HB9
            by_cases hok : ma < mt
            · have hgt : decide (mt ≤ ma) = false := by simp; omega
              have hgt2 : ¬ mt ≤ ma := by omega
              refine wpIn_region_round (S := (fun wz => LG p q sa ma sb mb W H ao n cap Z 1 a b u g st mt w W' wz ∧ wz.cell? ⟨w.heap.size + 1, 0, none⟩ = some (.int .i64 1) ∧ wz.cell? ⟨p, 1, none⟩ = some (.int .i64 ma) ∧ wz.cell? ⟨g, 0, none⟩ = some (.int .i64 st) ∧ wz.cell? ⟨g, 1, none⟩ = some (.int .i64 mt))) (by kernel_rfl) (by kernel_rfl) (by rintro ⟨a, w, h⟩; exact h) (lg_keep (And.intro HG9.out trivial) ((Below.refl _ _).drew)) (fun hHeld => ?_)
              refine wpAnyH_take (i := 0) (oi := { dst := some 50, op := Op.fieldAddr 26 (Operand.tmp 3) 0, type := 0, pos := "span.go:78", after := #[], guard := none }) (v := ?_) rfl (by kernel_rfl) (by kernel_rfl) (by kernel_rfl) (fun _ _ _ h => h) (Or.inl ⟨by rfl, ?_⟩) (by assumption) ?_
              rotate_left
              · intro w hSw; (try dsimp only at hSw); go_simp; try (with_reducible rfl)
              try simp only [Act.put, List.setIfInBounds_toArray, List.set_cons_zero, List.set_cons_succ]
              refine wpAnyH_take (i := 1) (oi := { dst := some 51, op := Op.load 3 (Operand.tmp 50), type := 3, pos := "span.go:78", after := #[{ on := 0, ground := Ground.data }], guard := none }) (v := ?_) rfl (by kernel_rfl) (by kernel_rfl) (by kernel_rfl) (fun _ _ _ h => h) (Or.inl ⟨by rfl, ?_⟩) (by assumption) ?_
              rotate_left
              · intro w hSw; (try dsimp only at hSw); go_simp; try (with_reducible rfl)
              try simp only [Act.put, List.setIfInBounds_toArray, List.set_cons_zero, List.set_cons_succ]
              refine wpAnyH_take (i := 2) (oi := { dst := some 52, op := Op.binOp BinOp.eql 3 (Operand.tmp 51) (Operand.const (Value.int IntKind.i64 0)) 3, type := 4, pos := "span.go:78", after := #[{ on := 1, ground := Ground.data }], guard := none }) (v := ?_) rfl (by kernel_rfl) (by kernel_rfl) (by kernel_rfl) (fun _ _ _ h => h) (Or.inl ⟨by rfl, ?_⟩) (by assumption) ?_
              rotate_left
              · intro w hSw; (try dsimp only at hSw); go_simp; try (with_reducible rfl)
              try simp only [Act.put, List.setIfInBounds_toArray, List.set_cons_zero, List.set_cons_succ]
              refine wpAnyH_take (i := 3) (oi := { dst := some 53, op := Op.move (Operand.tmp 52), type := 4, pos := "span.go:78", after := #[{ on := 2, ground := Ground.data }], guard := none }) (v := ?_) rfl (by kernel_rfl) (by kernel_rfl) (by kernel_rfl) (fun _ _ _ h => h) (Or.inl ⟨by rfl, ?_⟩) (by assumption) ?_
              rotate_left
              · intro w hSw; (try dsimp only at hSw); go_simp; try (with_reducible rfl)
              try simp only [Act.put, List.setIfInBounds_toArray, List.set_cons_zero, List.set_cons_succ]
              refine wpAnyH_take (i := 4) (oi := { dst := some 54, op := Op.load 88 (Operand.tmp 8), type := 88, pos := "span.go:78", after := #[{ on := 3, ground := Ground.guard }], guard := some (3, true) }) (v := undef) rfl (by kernel_rfl) (by kernel_rfl) (by kernel_rfl) (fun _ _ _ h => h) (Or.inr ⟨by rfl, rfl⟩) (by assumption) ?_
              try simp only [Act.put, List.setIfInBounds_toArray, List.set_cons_zero, List.set_cons_succ]
              refine wpAnyH_take (i := 5) (oi := { dst := some 55, op := Op.call { callee := Callee.value (Operand.func 86), args := #[Operand.tmp 54], argTypes := #[88] }, type := 3, pos := "span.go:78", after := #[{ on := 4, ground := Ground.data }, { on := 3, ground := Ground.chain }, { on := 3, ground := Ground.guard }], guard := some (3, true) }) (v := undef) rfl (by kernel_rfl) (by kernel_rfl) (by kernel_rfl) (fun _ _ _ h => h) (Or.inr ⟨by rfl, rfl⟩) (by assumption) ?_
              try simp only [Act.put, List.setIfInBounds_toArray, List.set_cons_zero, List.set_cons_succ]
              refine wpAnyH_take (i := 6) (oi := { dst := some 56, op := Op.fieldAddr 88 (Operand.tmp 5) 1, type := 0, pos := "span.go:78", after := #[{ on := 3, ground := Ground.guard }], guard := some (3, true) }) (v := undef) rfl (by kernel_rfl) (by kernel_rfl) (by kernel_rfl) (fun _ _ _ h => h) (Or.inr ⟨by rfl, rfl⟩) (by assumption) ?_
              try simp only [Act.put, List.setIfInBounds_toArray, List.set_cons_zero, List.set_cons_succ]
              refine wpAnyH_take (i := 7) (oi := { dst := some 57, op := Op.load 3 (Operand.tmp 56), type := 3, pos := "span.go:78", after := #[{ on := 6, ground := Ground.data }, { on := 3, ground := Ground.guard }], guard := some (3, true) }) (v := undef) rfl (by kernel_rfl) (by kernel_rfl) (by kernel_rfl) (fun _ _ _ h => h) (Or.inr ⟨by rfl, rfl⟩) (by assumption) ?_
              try simp only [Act.put, List.setIfInBounds_toArray, List.set_cons_zero, List.set_cons_succ]
              refine wpAnyH_take (i := 8) (oi := { dst := some 58, op := Op.binOp BinOp.gtr 3 (Operand.tmp 55) (Operand.tmp 57) 3, type := 4, pos := "span.go:78", after := #[{ on := 5, ground := Ground.data }, { on := 7, ground := Ground.data }, { on := 3, ground := Ground.guard }], guard := some (3, true) }) (v := undef) rfl (by kernel_rfl) (by kernel_rfl) (by kernel_rfl) (fun _ _ _ h => h) (Or.inr ⟨by rfl, rfl⟩) (by assumption) ?_
              try simp only [Act.put, List.setIfInBounds_toArray, List.set_cons_zero, List.set_cons_succ]
              refine wpAnyH_take (i := 9) (oi := { dst := some 59, op := Op.pick (Operand.tmp 53) (Operand.tmp 58) (Operand.const (Value.bool false)), type := 4, pos := "span.go:78", after := #[{ on := 3, ground := Ground.data }, { on := 8, ground := Ground.data }], guard := none }) (v := ?_) rfl (by kernel_rfl) (by kernel_rfl) (by kernel_rfl) (fun _ _ _ h => h) (Or.inl ⟨by rfl, ?_⟩) (by assumption) ?_
              rotate_left
              · intro w hSw; (try dsimp only at hSw); go_simp; try (with_reducible rfl)
              try simp only [Act.put, List.setIfInBounds_toArray, List.set_cons_zero, List.set_cons_succ]
              refine wpAnyH_take (i := 10) (oi := { dst := some 60, op := Op.move (Operand.tmp 59), type := 4, pos := "span.go:78", after := #[{ on := 9, ground := Ground.data }, { on := 5, ground := Ground.chain }], guard := none }) (v := ?_) rfl (by kernel_rfl) (by kernel_rfl) (by kernel_rfl) (fun _ _ _ h => h) (Or.inl ⟨by rfl, ?_⟩) (by assumption) ?_
              rotate_left
              · intro w hSw; (try dsimp only at hSw); go_simp; try (with_reducible rfl)
              try simp only [Act.put, List.setIfInBounds_toArray, List.set_cons_zero, List.set_cons_succ]
              refine wpAnyH_take (i := 11) (oi := { dst := some 61, op := Op.fieldAddr 26 (Operand.tmp 3) 0, type := 0, pos := "span.go:78", after := #[{ on := 10, ground := Ground.guard }], guard := some (10, false) }) (v := ?_) rfl (by kernel_rfl) (by kernel_rfl) (by kernel_rfl) (fun _ _ _ h => h) (Or.inl ⟨by rfl, ?_⟩) (by assumption) ?_
              rotate_left
              · intro w hSw; (try dsimp only at hSw); go_simp; try (with_reducible rfl)
              try simp only [Act.put, List.setIfInBounds_toArray, List.set_cons_zero, List.set_cons_succ]
              refine wpAnyH_take (i := 12) (oi := { dst := some 62, op := Op.load 3 (Operand.tmp 61), type := 3, pos := "span.go:78", after := #[{ on := 11, ground := Ground.data }, { on := 10, ground := Ground.guard }], guard := some (10, false) }) (v := ?_) rfl (by kernel_rfl) (by kernel_rfl) (by kernel_rfl) (fun _ _ _ h => h) (Or.inl ⟨by rfl, ?_⟩) (by assumption) ?_
              rotate_left
              · intro w hSw; (try dsimp only at hSw); go_simp; try (with_reducible rfl)
              try simp only [Act.put, List.setIfInBounds_toArray, List.set_cons_zero, List.set_cons_succ]
              refine wpAnyH_take (i := 13) (oi := { dst := some 63, op := Op.binOp BinOp.eql 3 (Operand.tmp 62) (Operand.const (Value.int IntKind.i64 1)) 3, type := 4, pos := "span.go:78", after := #[{ on := 12, ground := Ground.data }, { on := 10, ground := Ground.guard }], guard := some (10, false) }) (v := ?_) rfl (by kernel_rfl) (by kernel_rfl) (by kernel_rfl) (fun _ _ _ h => h) (Or.inl ⟨by rfl, ?_⟩) (by assumption) ?_
              rotate_left
              · intro w hSw; (try dsimp only at hSw); go_simp; try (with_reducible rfl)
              try simp only [Act.put, List.setIfInBounds_toArray, List.set_cons_zero, List.set_cons_succ]
              refine wpAnyH_take (i := 14) (oi := { dst := some 64, op := Op.move (Operand.tmp 63), type := 4, pos := "span.go:78", after := #[{ on := 13, ground := Ground.data }, { on := 10, ground := Ground.chain }, { on := 10, ground := Ground.guard }], guard := some (10, false) }) (v := ?_) rfl (by kernel_rfl) (by kernel_rfl) (by kernel_rfl) (fun _ _ _ h => h) (Or.inl ⟨by rfl, ?_⟩) (by assumption) ?_
              rotate_left
              · intro w hSw; (try dsimp only at hSw); go_simp; try (with_reducible rfl)
              try simp only [Act.put, List.setIfInBounds_toArray, List.set_cons_zero, List.set_cons_succ]
              refine wpAnyH_take (i := 15) (oi := { dst := some 65, op := Op.fieldAddr 88 (Operand.tmp 8) 1, type := 0, pos := "span.go:78", after := #[{ on := 14, ground := Ground.guard }], guard := some (14, true) }) (v := ?_) rfl (by kernel_rfl) (by kernel_rfl) (by kernel_rfl) (fun _ _ _ h => h) (Or.inl ⟨by rfl, ?_⟩) (by assumption) ?_
              rotate_left
              · intro w hSw; (try dsimp only at hSw); go_simp; try (with_reducible rfl)
              try simp only [Act.put, List.setIfInBounds_toArray, List.set_cons_zero, List.set_cons_succ]
              refine wpAnyH_take (i := 16) (oi := { dst := some 66, op := Op.load 3 (Operand.tmp 65), type := 3, pos := "span.go:78", after := #[{ on := 15, ground := Ground.data }, { on := 14, ground := Ground.guard }], guard := some (14, true) }) (v := ?_) rfl (by kernel_rfl) (by kernel_rfl) (by kernel_rfl) (fun _ _ _ h => h) (Or.inl ⟨by rfl, ?_⟩) (by assumption) ?_
              rotate_left
              · intro w hSw; (try dsimp only at hSw); go_simp; try (with_reducible rfl)
              try simp only [Act.put, List.setIfInBounds_toArray, List.set_cons_zero, List.set_cons_succ]
              refine wpAnyH_take (i := 17) (oi := { dst := some 67, op := Op.fieldAddr 88 (Operand.tmp 5) 1, type := 0, pos := "span.go:78", after := #[{ on := 14, ground := Ground.guard }], guard := some (14, true) }) (v := ?_) rfl (by kernel_rfl) (by kernel_rfl) (by kernel_rfl) (fun _ _ _ h => h) (Or.inl ⟨by rfl, ?_⟩) (by assumption) ?_
              rotate_left
              · intro w hSw; (try dsimp only at hSw); go_simp; try (with_reducible rfl)
              try simp only [Act.put, List.setIfInBounds_toArray, List.set_cons_zero, List.set_cons_succ]
              refine wpAnyH_take (i := 18) (oi := { dst := some 68, op := Op.load 3 (Operand.tmp 67), type := 3, pos := "span.go:78", after := #[{ on := 17, ground := Ground.data }, { on := 14, ground := Ground.guard }], guard := some (14, true) }) (v := ?_) rfl (by kernel_rfl) (by kernel_rfl) (by kernel_rfl) (fun _ _ _ h => h) (Or.inl ⟨by rfl, ?_⟩) (by assumption) ?_
              rotate_left
              · intro w hSw; (try dsimp only at hSw); go_simp; try (with_reducible rfl)
              try simp only [Act.put, List.setIfInBounds_toArray, List.set_cons_zero, List.set_cons_succ]
              refine wpAnyH_take (i := 19) (oi := { dst := some 69, op := Op.binOp BinOp.leq 3 (Operand.tmp 66) (Operand.tmp 68) 3, type := 4, pos := "span.go:78", after := #[{ on := 16, ground := Ground.data }, { on := 18, ground := Ground.data }, { on := 14, ground := Ground.guard }], guard := some (14, true) }) (v := ?_) rfl (by kernel_rfl) (by kernel_rfl) (by kernel_rfl) (fun _ _ _ h => h) (Or.inl ⟨by rfl, ?_⟩) (by assumption) ?_
              rotate_left
              · intro w hSw; (try dsimp only at hSw); go_simp; try (with_reducible rfl)
              try simp only [Act.put, List.setIfInBounds_toArray, List.set_cons_zero, List.set_cons_succ]
              refine wpAnyH_take (i := 20) (oi := { dst := some 70, op := Op.pick (Operand.tmp 64) (Operand.tmp 69) (Operand.const (Value.bool false)), type := 4, pos := "span.go:78", after := #[{ on := 14, ground := Ground.data }, { on := 19, ground := Ground.data }, { on := 10, ground := Ground.guard }], guard := some (10, false) }) (v := ?_) rfl (by kernel_rfl) (by kernel_rfl) (by kernel_rfl) (fun _ _ _ h => h) (Or.inl ⟨by rfl, ?_⟩) (by assumption) ?_
              rotate_left
              · intro w hSw; (try dsimp only at hSw); go_simp; try (with_reducible rfl)
              try simp only [Act.put, List.setIfInBounds_toArray, List.set_cons_zero, List.set_cons_succ]
              refine wpAnyH_take (i := 21) (oi := { dst := some 71, op := Op.pick (Operand.tmp 60) (Operand.const (Value.bool true)) (Operand.tmp 70), type := 4, pos := "span.go:78", after := #[{ on := 10, ground := Ground.data }, { on := 20, ground := Ground.data }], guard := none }) (v := ?_) rfl (by kernel_rfl) (by kernel_rfl) (by kernel_rfl) (fun _ _ _ h => h) (Or.inl ⟨by rfl, ?_⟩) (by assumption) ?_
              rotate_left
              · intro w hSw; (try dsimp only at hSw); go_simp; try (with_reducible rfl)
              try simp only [Act.put, List.setIfInBounds_toArray, List.set_cons_zero, List.set_cons_succ]
              refine wpAnyH_done (by kernel_rfl) ?_ _
              refine NoPanic.normal ?_
              gi_wp2
              have HZ := lg_of (by assumption)
              exact ⟨below_others HZ.bel, HZ.bel.mono (by omega), ⟨fun i hi => (List.mem_append.1 hi).elim (HP.out i) (fun e => by simp at e; subst e; rw [← HTX.out]; exact ⟨fun e => (by cases e), fun _ => (by rw [← HMT.out]; exact hok)⟩), HBW.out.trans (HZ.bel.mono hsW)⟩⟩
            · have hgt : decide (mt ≤ ma) = true := by simp; omega
              have hgt2 : mt ≤ ma := by omega
              refine wpIn_region_round (S := (fun wz => LG p q sa ma sb mb W H ao n cap Z 1 a b u g st mt w W' wz ∧ wz.cell? ⟨w.heap.size + 1, 0, none⟩ = some (.int .i64 1) ∧ wz.cell? ⟨p, 1, none⟩ = some (.int .i64 ma) ∧ wz.cell? ⟨g, 0, none⟩ = some (.int .i64 st) ∧ wz.cell? ⟨g, 1, none⟩ = some (.int .i64 mt))) (by kernel_rfl) (by kernel_rfl) (by rintro ⟨a, w, h⟩; exact h) (lg_keep (And.intro HG9.out trivial) ((Below.refl _ _).drew)) (fun hHeld => ?_)
              refine wpAnyH_take (i := 0) (oi := { dst := some 50, op := Op.fieldAddr 26 (Operand.tmp 3) 0, type := 0, pos := "span.go:78", after := #[], guard := none }) (v := ?_) rfl (by kernel_rfl) (by kernel_rfl) (by kernel_rfl) (fun _ _ _ h => h) (Or.inl ⟨by rfl, ?_⟩) (by assumption) ?_
              rotate_left
              · intro w hSw; (try dsimp only at hSw); go_simp; try (with_reducible rfl)
              try simp only [Act.put, List.setIfInBounds_toArray, List.set_cons_zero, List.set_cons_succ]
              refine wpAnyH_take (i := 1) (oi := { dst := some 51, op := Op.load 3 (Operand.tmp 50), type := 3, pos := "span.go:78", after := #[{ on := 0, ground := Ground.data }], guard := none }) (v := ?_) rfl (by kernel_rfl) (by kernel_rfl) (by kernel_rfl) (fun _ _ _ h => h) (Or.inl ⟨by rfl, ?_⟩) (by assumption) ?_
              rotate_left
              · intro w hSw; (try dsimp only at hSw); go_simp; try (with_reducible rfl)
              try simp only [Act.put, List.setIfInBounds_toArray, List.set_cons_zero, List.set_cons_succ]
              refine wpAnyH_take (i := 2) (oi := { dst := some 52, op := Op.binOp BinOp.eql 3 (Operand.tmp 51) (Operand.const (Value.int IntKind.i64 0)) 3, type := 4, pos := "span.go:78", after := #[{ on := 1, ground := Ground.data }], guard := none }) (v := ?_) rfl (by kernel_rfl) (by kernel_rfl) (by kernel_rfl) (fun _ _ _ h => h) (Or.inl ⟨by rfl, ?_⟩) (by assumption) ?_
              rotate_left
              · intro w hSw; (try dsimp only at hSw); go_simp; try (with_reducible rfl)
              try simp only [Act.put, List.setIfInBounds_toArray, List.set_cons_zero, List.set_cons_succ]
              refine wpAnyH_take (i := 3) (oi := { dst := some 53, op := Op.move (Operand.tmp 52), type := 4, pos := "span.go:78", after := #[{ on := 2, ground := Ground.data }], guard := none }) (v := ?_) rfl (by kernel_rfl) (by kernel_rfl) (by kernel_rfl) (fun _ _ _ h => h) (Or.inl ⟨by rfl, ?_⟩) (by assumption) ?_
              rotate_left
              · intro w hSw; (try dsimp only at hSw); go_simp; try (with_reducible rfl)
              try simp only [Act.put, List.setIfInBounds_toArray, List.set_cons_zero, List.set_cons_succ]
              refine wpAnyH_take (i := 4) (oi := { dst := some 54, op := Op.load 88 (Operand.tmp 8), type := 88, pos := "span.go:78", after := #[{ on := 3, ground := Ground.guard }], guard := some (3, true) }) (v := undef) rfl (by kernel_rfl) (by kernel_rfl) (by kernel_rfl) (fun _ _ _ h => h) (Or.inr ⟨by rfl, rfl⟩) (by assumption) ?_
              try simp only [Act.put, List.setIfInBounds_toArray, List.set_cons_zero, List.set_cons_succ]
              refine wpAnyH_take (i := 5) (oi := { dst := some 55, op := Op.call { callee := Callee.value (Operand.func 86), args := #[Operand.tmp 54], argTypes := #[88] }, type := 3, pos := "span.go:78", after := #[{ on := 4, ground := Ground.data }, { on := 3, ground := Ground.chain }, { on := 3, ground := Ground.guard }], guard := some (3, true) }) (v := undef) rfl (by kernel_rfl) (by kernel_rfl) (by kernel_rfl) (fun _ _ _ h => h) (Or.inr ⟨by rfl, rfl⟩) (by assumption) ?_
              try simp only [Act.put, List.setIfInBounds_toArray, List.set_cons_zero, List.set_cons_succ]
              refine wpAnyH_take (i := 6) (oi := { dst := some 56, op := Op.fieldAddr 88 (Operand.tmp 5) 1, type := 0, pos := "span.go:78", after := #[{ on := 3, ground := Ground.guard }], guard := some (3, true) }) (v := undef) rfl (by kernel_rfl) (by kernel_rfl) (by kernel_rfl) (fun _ _ _ h => h) (Or.inr ⟨by rfl, rfl⟩) (by assumption) ?_
              try simp only [Act.put, List.setIfInBounds_toArray, List.set_cons_zero, List.set_cons_succ]
              refine wpAnyH_take (i := 7) (oi := { dst := some 57, op := Op.load 3 (Operand.tmp 56), type := 3, pos := "span.go:78", after := #[{ on := 6, ground := Ground.data }, { on := 3, ground := Ground.guard }], guard := some (3, true) }) (v := undef) rfl (by kernel_rfl) (by kernel_rfl) (by kernel_rfl) (fun _ _ _ h => h) (Or.inr ⟨by rfl, rfl⟩) (by assumption) ?_
              try simp only [Act.put, List.setIfInBounds_toArray, List.set_cons_zero, List.set_cons_succ]
              refine wpAnyH_take (i := 8) (oi := { dst := some 58, op := Op.binOp BinOp.gtr 3 (Operand.tmp 55) (Operand.tmp 57) 3, type := 4, pos := "span.go:78", after := #[{ on := 5, ground := Ground.data }, { on := 7, ground := Ground.data }, { on := 3, ground := Ground.guard }], guard := some (3, true) }) (v := undef) rfl (by kernel_rfl) (by kernel_rfl) (by kernel_rfl) (fun _ _ _ h => h) (Or.inr ⟨by rfl, rfl⟩) (by assumption) ?_
              try simp only [Act.put, List.setIfInBounds_toArray, List.set_cons_zero, List.set_cons_succ]
              refine wpAnyH_take (i := 9) (oi := { dst := some 59, op := Op.pick (Operand.tmp 53) (Operand.tmp 58) (Operand.const (Value.bool false)), type := 4, pos := "span.go:78", after := #[{ on := 3, ground := Ground.data }, { on := 8, ground := Ground.data }], guard := none }) (v := ?_) rfl (by kernel_rfl) (by kernel_rfl) (by kernel_rfl) (fun _ _ _ h => h) (Or.inl ⟨by rfl, ?_⟩) (by assumption) ?_
              rotate_left
              · intro w hSw; (try dsimp only at hSw); go_simp; try (with_reducible rfl)
              try simp only [Act.put, List.setIfInBounds_toArray, List.set_cons_zero, List.set_cons_succ]
              refine wpAnyH_take (i := 10) (oi := { dst := some 60, op := Op.move (Operand.tmp 59), type := 4, pos := "span.go:78", after := #[{ on := 9, ground := Ground.data }, { on := 5, ground := Ground.chain }], guard := none }) (v := ?_) rfl (by kernel_rfl) (by kernel_rfl) (by kernel_rfl) (fun _ _ _ h => h) (Or.inl ⟨by rfl, ?_⟩) (by assumption) ?_
              rotate_left
              · intro w hSw; (try dsimp only at hSw); go_simp; try (with_reducible rfl)
              try simp only [Act.put, List.setIfInBounds_toArray, List.set_cons_zero, List.set_cons_succ]
              refine wpAnyH_take (i := 11) (oi := { dst := some 61, op := Op.fieldAddr 26 (Operand.tmp 3) 0, type := 0, pos := "span.go:78", after := #[{ on := 10, ground := Ground.guard }], guard := some (10, false) }) (v := ?_) rfl (by kernel_rfl) (by kernel_rfl) (by kernel_rfl) (fun _ _ _ h => h) (Or.inl ⟨by rfl, ?_⟩) (by assumption) ?_
              rotate_left
              · intro w hSw; (try dsimp only at hSw); go_simp; try (with_reducible rfl)
              try simp only [Act.put, List.setIfInBounds_toArray, List.set_cons_zero, List.set_cons_succ]
              refine wpAnyH_take (i := 12) (oi := { dst := some 62, op := Op.load 3 (Operand.tmp 61), type := 3, pos := "span.go:78", after := #[{ on := 11, ground := Ground.data }, { on := 10, ground := Ground.guard }], guard := some (10, false) }) (v := ?_) rfl (by kernel_rfl) (by kernel_rfl) (by kernel_rfl) (fun _ _ _ h => h) (Or.inl ⟨by rfl, ?_⟩) (by assumption) ?_
              rotate_left
              · intro w hSw; (try dsimp only at hSw); go_simp; try (with_reducible rfl)
              try simp only [Act.put, List.setIfInBounds_toArray, List.set_cons_zero, List.set_cons_succ]
              refine wpAnyH_take (i := 13) (oi := { dst := some 63, op := Op.binOp BinOp.eql 3 (Operand.tmp 62) (Operand.const (Value.int IntKind.i64 1)) 3, type := 4, pos := "span.go:78", after := #[{ on := 12, ground := Ground.data }, { on := 10, ground := Ground.guard }], guard := some (10, false) }) (v := ?_) rfl (by kernel_rfl) (by kernel_rfl) (by kernel_rfl) (fun _ _ _ h => h) (Or.inl ⟨by rfl, ?_⟩) (by assumption) ?_
              rotate_left
              · intro w hSw; (try dsimp only at hSw); go_simp; try (with_reducible rfl)
              try simp only [Act.put, List.setIfInBounds_toArray, List.set_cons_zero, List.set_cons_succ]
              refine wpAnyH_take (i := 14) (oi := { dst := some 64, op := Op.move (Operand.tmp 63), type := 4, pos := "span.go:78", after := #[{ on := 13, ground := Ground.data }, { on := 10, ground := Ground.chain }, { on := 10, ground := Ground.guard }], guard := some (10, false) }) (v := ?_) rfl (by kernel_rfl) (by kernel_rfl) (by kernel_rfl) (fun _ _ _ h => h) (Or.inl ⟨by rfl, ?_⟩) (by assumption) ?_
              rotate_left
              · intro w hSw; (try dsimp only at hSw); go_simp; try (with_reducible rfl)
              try simp only [Act.put, List.setIfInBounds_toArray, List.set_cons_zero, List.set_cons_succ]
              refine wpAnyH_take (i := 15) (oi := { dst := some 65, op := Op.fieldAddr 88 (Operand.tmp 8) 1, type := 0, pos := "span.go:78", after := #[{ on := 14, ground := Ground.guard }], guard := some (14, true) }) (v := ?_) rfl (by kernel_rfl) (by kernel_rfl) (by kernel_rfl) (fun _ _ _ h => h) (Or.inl ⟨by rfl, ?_⟩) (by assumption) ?_
              rotate_left
              · intro w hSw; (try dsimp only at hSw); go_simp; try (with_reducible rfl)
              try simp only [Act.put, List.setIfInBounds_toArray, List.set_cons_zero, List.set_cons_succ]
              refine wpAnyH_take (i := 16) (oi := { dst := some 66, op := Op.load 3 (Operand.tmp 65), type := 3, pos := "span.go:78", after := #[{ on := 15, ground := Ground.data }, { on := 14, ground := Ground.guard }], guard := some (14, true) }) (v := ?_) rfl (by kernel_rfl) (by kernel_rfl) (by kernel_rfl) (fun _ _ _ h => h) (Or.inl ⟨by rfl, ?_⟩) (by assumption) ?_
              rotate_left
              · intro w hSw; (try dsimp only at hSw); go_simp; try (with_reducible rfl)
              try simp only [Act.put, List.setIfInBounds_toArray, List.set_cons_zero, List.set_cons_succ]
              refine wpAnyH_take (i := 17) (oi := { dst := some 67, op := Op.fieldAddr 88 (Operand.tmp 5) 1, type := 0, pos := "span.go:78", after := #[{ on := 14, ground := Ground.guard }], guard := some (14, true) }) (v := ?_) rfl (by kernel_rfl) (by kernel_rfl) (by kernel_rfl) (fun _ _ _ h => h) (Or.inl ⟨by rfl, ?_⟩) (by assumption) ?_
              rotate_left
              · intro w hSw; (try dsimp only at hSw); go_simp; try (with_reducible rfl)
              try simp only [Act.put, List.setIfInBounds_toArray, List.set_cons_zero, List.set_cons_succ]
              refine wpAnyH_take (i := 18) (oi := { dst := some 68, op := Op.load 3 (Operand.tmp 67), type := 3, pos := "span.go:78", after := #[{ on := 17, ground := Ground.data }, { on := 14, ground := Ground.guard }], guard := some (14, true) }) (v := ?_) rfl (by kernel_rfl) (by kernel_rfl) (by kernel_rfl) (fun _ _ _ h => h) (Or.inl ⟨by rfl, ?_⟩) (by assumption) ?_
              rotate_left
              · intro w hSw; (try dsimp only at hSw); go_simp; try (with_reducible rfl)
              try simp only [Act.put, List.setIfInBounds_toArray, List.set_cons_zero, List.set_cons_succ]
              refine wpAnyH_take (i := 19) (oi := { dst := some 69, op := Op.binOp BinOp.leq 3 (Operand.tmp 66) (Operand.tmp 68) 3, type := 4, pos := "span.go:78", after := #[{ on := 16, ground := Ground.data }, { on := 18, ground := Ground.data }, { on := 14, ground := Ground.guard }], guard := some (14, true) }) (v := ?_) rfl (by kernel_rfl) (by kernel_rfl) (by kernel_rfl) (fun _ _ _ h => h) (Or.inl ⟨by rfl, ?_⟩) (by assumption) ?_
              rotate_left
              · intro w hSw; (try dsimp only at hSw); go_simp; try (with_reducible rfl)
              try simp only [Act.put, List.setIfInBounds_toArray, List.set_cons_zero, List.set_cons_succ]
              refine wpAnyH_take (i := 20) (oi := { dst := some 70, op := Op.pick (Operand.tmp 64) (Operand.tmp 69) (Operand.const (Value.bool false)), type := 4, pos := "span.go:78", after := #[{ on := 14, ground := Ground.data }, { on := 19, ground := Ground.data }, { on := 10, ground := Ground.guard }], guard := some (10, false) }) (v := ?_) rfl (by kernel_rfl) (by kernel_rfl) (by kernel_rfl) (fun _ _ _ h => h) (Or.inl ⟨by rfl, ?_⟩) (by assumption) ?_
              rotate_left
              · intro w hSw; (try dsimp only at hSw); go_simp; try (with_reducible rfl)
              try simp only [Act.put, List.setIfInBounds_toArray, List.set_cons_zero, List.set_cons_succ]
              refine wpAnyH_take (i := 21) (oi := { dst := some 71, op := Op.pick (Operand.tmp 60) (Operand.const (Value.bool true)) (Operand.tmp 70), type := 4, pos := "span.go:78", after := #[{ on := 10, ground := Ground.data }, { on := 20, ground := Ground.data }], guard := none }) (v := ?_) rfl (by kernel_rfl) (by kernel_rfl) (by kernel_rfl) (fun _ _ _ h => h) (Or.inl ⟨by rfl, ?_⟩) (by assumption) ?_
              rotate_left
              · intro w hSw; (try dsimp only at hSw); go_simp; try (with_reducible rfl)
              try simp only [Act.put, List.setIfInBounds_toArray, List.set_cons_zero, List.set_cons_succ]
              refine wpAnyH_done (by kernel_rfl) ?_ _
              refine NoPanic.normal ?_
              have hrf : r = false := by
                rw [Bool.eq_false_iff]; intro h
                have := (HR.out.1 h).mid x.val (by rw [← HD.out, ← HC.out]; exact x.isLt)
                rw [← HD.out, ← HTX.out] at this
                exact absurd (this.2 rfl) (by rw [← HMT.out, ← HMA.out]; omega)
              have HZ := lg_of (by assumption)
              have rc := cell_of_row _ _ 0 _ _ _ HZ.lr.rs
              have rf := frozen_of_row _ _ 0 _ _ HZ.lr.rs
              have hrz := heap_lt HZ.lr.rs
              simp only [List.getElem?_toArray, List.getElem?_cons_zero] at rc
              have HZ2 := hid HZ
              have HRF := hid hrf
              clear HZ hrf
              gi_wp2
              exact ⟨(below_others HZ2.out.bel).trans (KeepsOthers.setCell _ _ _), ⟨rfl, HRF.out, World.cell?_setCell_same' _ _ _ (Option.isSome_iff_exists.2 ⟨_, rc⟩)⟩, HZ2.out.lr.bx.below.setCell (p := ⟨w.heap.size + 1 + 1, 0, none⟩) (by show w.heap.size ≤ w.heap.size + 1 + 1; omega) _⟩
          case done =>
            rintro D ys W' hD rfl ⟨hp, hB⟩ hK
            subst hact
            have hrt : r = true := by
              refine HR.out.2 ⟨by rw [← HMA.out, ← HMB.out]; exact HM'.out, by rw [← HSA.out]; exact h2, by rw [← HSB.out]; exact h3, fun _ => HF1.out trivial, ?_⟩
              intro i hi
              rw [← HMA.out]
              rw [← HD.out] at hi ⊢
              rw [← HC.out] at hi
              exact hp ⟨i, hi⟩ (List.mem_finRange _)
            subst hrt
            have HW := hid (HV6.out.stays hB)
            have rc := cell_of_row _ _ 0 _ _ _ HW.out.rs
            have rf := frozen_of_row _ _ 0 _ _ HW.out.rs
            have hrz := heap_lt HW.out.rs
            simp only [List.getElem?_toArray, List.getElem?_cons_zero] at rc
            clear hp
            go_wp2
            have hK' := (KeepsOthers.setCell W' ⟨w.heap.size + 1 + 1, 0, none⟩ (.bool true)).same D _ hK rfl
            refine ⟨by simp, .inl ⟨_, _, rfl, run_takeDeferred hK', ?_⟩⟩
            have hc5 := cell_kept (World.cell?_setCell_same' W' ⟨w.heap.size + 1 + 1, 0, none⟩ (.bool true) (by rw [rc]; rfl)) (grownBy_putObj' _ D (.deferred none)) (fun r e => by cases e; exact ⟨_, hK', rfl⟩)
            refine ⟨.bool true, ?_, rfl, (HW.out.bx.below.setCell (p := ⟨w.heap.size + 1 + 1, 0, none⟩) (by show w.heap.size ≤ w.heap.size + 1 + 1; omega) _).trans (belowK_b (w := w) (Nat.le_refl _) _ D _ _ (by omega) hK' rfl rfl)⟩
            simp [results, Try.f68, go_sem, hc5]
          case stop =>
            rintro D cc pre W' hD hpre ⟨⟨rfl, hin, hcr⟩, hB⟩ hK
            subst hact
            subst hin
            gi_wp2
            refine ⟨by simp, .inl ⟨_, _, rfl, run_takeDeferred hK, ?_⟩⟩
            have hc5 := cell_kept hcr (grownBy_putObj' _ D (.deferred none)) (fun r e => by cases e; exact ⟨_, hK, rfl⟩)
            refine ⟨.bool false, ?_, rfl, hB.trans (belowK_b (w := w) (Nat.le_refl _) W' D _ _ (by omega) hK rfl rfl)⟩
            simp [results, Try.f68, go_sem, hc5]
      · have hk1 : k = 1 := by
          by_cases h : k = 1
          · exact h
          · exact absurd (fun e => absurd e h) hf
        subst hk1
        have hnf : ¬ Face W Z a b := fun h => hf fun _ => h
        have hrf : r = false := by
          rw [Bool.eq_false_iff]; intro h
          exact hnf ((HR.out.1 h).face rfl)
        have HNF : Hid (false = true ↔ if InRow W a b then sa = 6 ∧ sb = 9 else sa = 12 ∧ sb = 3) := hid ⟨fun h => (by cases h), fun h => absurd (by unfold Face; rw [← HSA.out, ← HSB.out]; exact h) hnf⟩
        subst hrf
        clear hf hnf
        go_wp2_with (go_at_call 85; refine (faces_any W H hW1 hW2 _ _ u a b (by omega) (by omega) sa ma sb mb false HNF.out _).mono ?_; rintro e w5 ⟨rfl, hb5⟩; have H5 := hid (HV.out.stays hb5); clear hb5 rc rf; have rc := cell_of_row _ _ 0 _ _ _ H5.out.rs; have rf := frozen_of_row _ _ 0 _ _ H5.out.rs; simp only [List.getElem?_toArray, List.getElem?_cons_zero] at rc)
        refine ⟨.bool false, ?_, rfl, ?_⟩
        · have := World.cell?_setCell_same' _ ⟨w.heap.size + 1 + 1, 0, none⟩ (.bool false) (by rw [rc]; rfl)
          simp [results, Try.f68, go_sem, this]
        · exact H5.out.bx.below.setCell (p := ⟨w.heap.size + 1 + 1, 0, none⟩) (by show w.heap.size ≤ w.heap.size + 1 + 1; omega) _
    · have hrf : r = false := by
        rw [Bool.eq_false_iff]; intro h
        have := HR.out.1 h
        exact h1 ⟨by rw [HMA.out, HMB.out]; exact this.bases, by rw [HSA.out]; exact this.sa, by rw [HSB.out]; exact this.sb⟩
      subst hrf
      by_cases hm : ma = mb
      · have g1 : (ma == mb) = true := by rw [beq_iff_eq]; exact hm
        have g2 : (ma != mb) = false := by simp [hm]
        by_cases h2 : sa < 16
        · have h3 : ¬ sb < 16 := fun h => h1 ⟨hm, h2, h⟩
          clear hm h1
          go_wp2_with fail
          refine ⟨.bool false, ?_, rfl, ?_⟩
          · have := World.cell?_setCell_same' _ ⟨w.heap.size + 1 + 1, 0, none⟩ (.bool false) (by rw [rc]; rfl)
            simp [results, Try.f68, go_sem, this]
          · exact HV.out.bx.below.setCell (p := ⟨w.heap.size + 1 + 1, 0, none⟩) (by show w.heap.size ≤ w.heap.size + 1 + 1; omega) _
        · clear hm h1
          go_wp2_with fail
          refine ⟨.bool false, ?_, rfl, ?_⟩
          · have := World.cell?_setCell_same' _ ⟨w.heap.size + 1 + 1, 0, none⟩ (.bool false) (by rw [rc]; rfl)
            simp [results, Try.f68, go_sem, this]
          · exact HV.out.bx.below.setCell (p := ⟨w.heap.size + 1 + 1, 0, none⟩) (by show w.heap.size ≤ w.heap.size + 1 + 1; omega) _
      · have g1 : (ma == mb) = false := by rw [beq_eq_false_iff_ne]; exact hm
        have g2 : (ma != mb) = true := by simp [hm]
        clear hm h1
        go_wp2_with fail
        refine ⟨.bool false, ?_, rfl, ?_⟩
        · have := World.cell?_setCell_same' _ ⟨w.heap.size + 1 + 1, 0, none⟩ (.bool false) (by rw [rc]; rfl)
          simp [results, Try.f68, go_sem, this]
        · exact HV.out.bx.below.setCell (p := ⟨w.heap.size + 1 + 1, 0, none⟩) (by show w.heap.size ≤ w.heap.size + 1 + 1; omega) _
end Go.Proofs.Ytpohhcmkkjcelaa
