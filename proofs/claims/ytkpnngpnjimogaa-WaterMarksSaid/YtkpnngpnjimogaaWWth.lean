/-
  with of the reference: waters in memory of the call's own.
-/
import Derived.Test.YtkpnngpnjimogaaWReb
import Derived.Deep.RegionHeld3
import Derived.Deep.AppendLies
namespace Go.Proofs.Ytkpnngpnjimogaa
open Go.RowKit

theorem run_append_none (ao : Option Addr) (c : Nat) (w : World) (i : TypeInfo) (hi : Try.prog.info? 3 = some i) (hz : i.zero = some (.int .i64 0)) :
    (Builtin.append_ #[22, 22] 22 #[.slice none 0 0, .slice ao 0 c]).run Try.prog w = .ok (.slice none 0 0) w := by
  cases ao <;> simp [Builtin.append_, run_underlying Try.underlying22, sizeOf, typeInfo, zeroValue, hi, hz, Builtin.lenOf, go_sem]
/-- append of any slice of numbers onto nil, at a step of a region that draws its order. -/
theorem step_append_copy {ops : Array Oper} {o : Oper} {a : Act} {K : Act → World → Prop} {Q : Exit → Act → World → Prop} {E : Prop} (w : World) (hgd : o.guard = none) (s x : Operand)
    (ho : o.op = .call { callee := .builtin .append, args := #[s, x], argTypes := #[22, 22] }) (hty : o.type = 22)
    (hs : a.eval s = .slice none 0 0) (ao : Option Addr) (n c : Nat) (Z : Nat → Int) (hx : a.eval x = .slice ao n c) (hn : n ≤ 4000) (hI : Ints w ao n Z)
    (h : ∀ bo d w', w'.ownsRow w.heap.size 3 1 (.slice bo n d) n (vals n (iv Z)) → Below w.heap.size w w' → K (a.put o.dst (.slice bo n d)) w') :
    if Region.wanted o (yielded ops a.tmps) = true then Oper.wp Try.prog o a w K Q else E := by
  obtain ⟨i0, hi0, hi1, hi2, hi3⟩ := infoX
  by_cases h0 : n = 0
  · subst h0
    have hw : Region.wanted o (yielded ops a.tmps) = true := by simp [Region.wanted, hgd]
    rw [if_pos hw]
    unfold Oper.wp execOp
    simp only [ho, hty, resolve, invoke, builtin, Sem.run_bind, Sem.run_pure, Result.andThen_ok, List.map_toArray, List.map_cons, List.map_nil, hs, hx, run_append_none ao c w i0 hi0 hi1]
    exact h none 0 w (World.ownsRow_nil _ _ _ _) (Below.refl _ _)
  · obtain ⟨b, off, rfl, hz, hc⟩ := hI.one (by omega)
    refine step_append_lies w hgd s x 22 ho w.heap.size 3 i0 (.int .i64 0) 1 8 Try.underlying22 hi0 hi1 hi2 hi3 rfl (by decide) (.slice none 0 0) 0 [] hs (World.ownsRow_nil _ _ _ _) ⟨b, off, none⟩ n c (vals n (iv Z)) hx (by simp [vals_length]) ?_ ?_ (by omega) (by unfold maxLen; omega) (by omega) (Nat.le_refl _) _ rfl ?_
    · intro j u hj
      have hjn : j < n := by have := (List.getElem?_eq_some_iff.1 hj).1; rwa [vals_length] at this
      rw [vals_get _ hjn] at hj
      rw [Addr.add_lit, hc j hjn]; exact hj
    · intro u hu
      obtain ⟨y, _, rfl⟩ := List.mem_map.1 hu
      rfl
    · intro g d w' hown hg _ _
      rw [Nat.zero_add] at hown ⊢
      exact h (some ⟨g, 0, none⟩) d w' hown ((Below.refl _ w).grown hg (Nat.le_refl _) (by intro k hk; simp [Value.ownBlock] at hk))
structure WS (A : Nat) (ks bs : Value) (w wr : World) : Prop where
  bx : Bx2 A 26 26 #[ks, bs] #[.slice none 0 0, .slice none 0 0] w wr
def SW (A : Nat) (ks bs : Value) (w : World) : World → Prop := fun w' => WS A ks bs w w' ∧ w'.cell? ⟨A, 0, none⟩ = some ks ∧ w'.cell? ⟨A, 1, none⟩ = some bs
theorem sw_keep {A : Nat} {ks bs : Value} {w a b : World} {C : Prop} (h : WS A ks bs w a ∧ C) (k : Below a.heap.size a b) : WS A ks bs w b ∧ b.cell? ⟨A, 0, none⟩ = some ks ∧ b.cell? ⟨A, 1, none⟩ = some bs := by
  have h' := h.1.bx.stays k
  exact ⟨⟨h'⟩, cell_of_row b A 0 _ _ _ h'.hb, cell_of_row b A 1 _ _ _ h'.hb⟩
theorem sw_k {A m : Nat} {ko : Option Addr} {ks bs : Value} {K : Nat → Int} {w a : World} {C : Prop} (hA : A = w.heap.size) (h : WS A ks bs w a ∧ C) (hK : Ints w ko m K) : Ints a ko m K := hK.stays (by rw [← hA]; exact h.1.bx.below)

theorem sw_set {A C : Nat} {ks bs : Value} {w a : World} {D : Prop} (h : WS A ks bs w a ∧ D) (hC : A + 1 < C) (x y : Value) : WS A ks bs w ((a.setCell ⟨C, 0, none⟩ x).setCell ⟨C, 1, none⟩ y) ∧ ((a.setCell ⟨C, 0, none⟩ x).setCell ⟨C, 1, none⟩ y).cell? ⟨A, 0, none⟩ = some ks ∧ ((a.setCell ⟨C, 0, none⟩ x).setCell ⟨C, 1, none⟩ y).cell? ⟨A, 1, none⟩ = some bs := by
  have e : ∀ b, b ≠ C → ((a.setCell ⟨C, 0, none⟩ x).setCell ⟨C, 1, none⟩ y).heap[b]? = a.heap[b]? := fun b hb => (Below.heap_setCell _ _ _ b hb).trans (Below.heap_setCell _ _ _ b hb)
  have hb := (e A (by omega)).trans h.1.bx.hb
  exact ⟨⟨⟨set2_below h.1.bx.below (by omega) _ _, hb, (e (A + 1) (by omega)).trans h.1.bx.hr⟩⟩, cell_of_row _ A 0 _ _ _ hb, cell_of_row _ A 1 _ _ _ hb⟩
/-- Two rows of the call's own, and the box that is to hold them. -/
structure W2 (A C m q : Nat) (ks bs : Value) (kv bv : Value) (s t : Value) (F G : Nat → Value) (w a : World) : Prop where
  mk ::
  bx : Bx2 A 26 26 #[ks, bs] #[.slice none 0 0, .slice none 0 0] w a
  hc : a.heap[C]? = some (.cells #[s, t] 26 (0, 0))
  row1 : a.ownsRow (A + 2) 3 1 kv m (vals m F)
  row2 : a.ownsRow (A + 2) 3 1 bv q (vals q G)
  nk : kv.ownBlock ≠ some C
  nb : bv.ownBlock ≠ some C
  nkb : ∀ x, kv.ownBlock = some x → bv.ownBlock ≠ some x
  ca : A + 1 < C
theorem W2.put {A C m q : Nat} {ks bs kv bv s t : Value} {F G : Nat → Value} {w a : World} (h : W2 A C m q ks bs kv bv s t F G w a) (x y : Value) : W2 A C m q ks bs kv bv x y F G w ((a.setCell ⟨C, 0, none⟩ x).setCell ⟨C, 1, none⟩ y) := by
  have hca := h.ca
  have e : ∀ b, b ≠ C → ((a.setCell ⟨C, 0, none⟩ x).setCell ⟨C, 1, none⟩ y).heap[b]? = a.heap[b]? := fun b hb => (Below.heap_setCell _ _ _ b hb).trans (Below.heap_setCell _ _ _ b hb)
  exact ⟨⟨set2_below h.bx.below (by omega) _ _, (e A (by omega)).trans h.bx.hb, (e (A + 1) (by omega)).trans h.bx.hr⟩, set2 h.hc x y, set2_row h.row1 h.nk _ _, set2_row h.row2 h.nb _ _, h.nk, h.nb, h.nkb, hca⟩
theorem W2.turn {A C m q g c : Nat} {ks bs bv s t : Value} {K : Nat → Int} {G : Nat → Value} {w a : World} (h : W2 A C m q ks bs (.slice (some ⟨g, 0, none⟩) m c) bv s t (iv K) G w a) (i : Nat) (k : Int) (hg : A + 2 ≤ g) : W2 A C m q ks bs (.slice (some ⟨g, 0, none⟩) m c) bv s t (iv (upK K i k)) G w (a.setCell ⟨g, i, none⟩ (.int .i64 k)) := by
  have hgC : C ≠ g := fun e => h.nk (by simp [Value.ownBlock, e])
  have r := (h.row1.stored i (.int .i64 k)).1
  rw [vals_upK] at r
  exact ⟨⟨h.bx.below.setCell (p := ⟨g, i, none⟩) (by show A ≤ g; omega) _, (Below.heap_setCell a ⟨g, i, none⟩ _ A (by show A ≠ g; omega)).trans h.bx.hb, (Below.heap_setCell a ⟨g, i, none⟩ _ (A + 1) (by show A + 1 ≠ g; omega)).trans h.bx.hr⟩,
    (Below.heap_setCell a ⟨g, i, none⟩ _ C hgC).trans h.hc, r, row_other (a := ⟨g, i, none⟩) h.row2 (h.nkb g rfl) _, h.nk, h.nb, h.nkb, h.ca⟩

set_option maxRecDepth 20000 in
set_option maxHeartbeats 3200000 in
theorem with_any (ko : Option Addr) (m kcap : Nat) (K : Nat → Int) (bo : Option Addr) (q bcap : Nat) (Y : Nat → Int) (hm : m ≤ 4000) (hq : q ≤ 4000) (t : Nat) (ht : t < m) (k : Int) (w : World) (hK : Ints w ko m K) (hY : Ints w bo q Y) :
    Calls Try.prog 49 #[.agg #[.slice ko m kcap, .slice bo q bcap], .int .i64 t, .int .i64 k] w (WtR m q (upK K t k) Y w) := by
  have hst := bx2_start w 26 26 #[.slice ko m kcap, .slice bo q bcap] #[.slice none 0 0, .slice none 0 0]
  have HK := hid hK
  have HY := hid hY
  have HST : Hid (WS w.heap.size (.slice ko m kcap) (.slice bo q bcap) w _) := hid ⟨hst⟩
  have ht' : (t : Int) < (m : Int) := by omega
  clear hK hY hst
  obtain ⟨A, hA⟩ : ∃ A, A = w.heap.size := ⟨_, rfl⟩
  have HA := hid hA
  go_enter Try.func49, Try.ntmps49
  go_wp2_with fail
  simp only [← hA] at HST ⊢
  generalize World.alloc _ _ = w1 at HST ⊢
  clear hA
  refine wp_region_held_drew (S := (fun w' => WS A (.slice ko m kcap) (.slice bo q bcap) w w' ∧ w'.cell? ⟨A, 0, none⟩ = some (.slice ko m kcap) ∧ w'.cell? ⟨A, 1, none⟩ = some (.slice bo q bcap))) (by kernel_rfl) (sw_keep (And.intro HST.out trivial) ((Below.refl _ _).drew)) (fun hHeld => ?_)
  refine wpAnyH_take (i := 0) (oi := { dst := some 8, op := Op.fieldAddr 26 (Operand.tmp 3) 0, type := 0, pos := "ref.go:88", after := #[], guard := none }) (v := ?_) rfl (by kernel_rfl) (by kernel_rfl) (by kernel_rfl) (fun _ _ _ h => h) (Or.inl ⟨by rfl, ?_⟩) (by assumption) ?_
  rotate_left
  · intro w hSw; (try dsimp only at hSw); go_simp; try (with_reducible rfl)
  try simp only [Act.put, List.setIfInBounds_toArray, List.set_cons_zero, List.set_cons_succ]
  refine wpAnyH_take (i := 1) (oi := { dst := some 9, op := Op.load 22 (Operand.tmp 8), type := 22, pos := "ref.go:88", after := #[{ on := 0, ground := Ground.data }], guard := none }) (v := ?_) rfl (by kernel_rfl) (by kernel_rfl) (by kernel_rfl) (fun _ _ _ h => h) (Or.inl ⟨by rfl, ?_⟩) (by assumption) ?_
  rotate_left
  · intro w hSw; (try dsimp only at hSw); go_simp; try (with_reducible rfl)
  try simp only [Act.put, List.setIfInBounds_toArray, List.set_cons_zero, List.set_cons_succ]
  refine wpAnyH_take (i := 3) (oi := { dst := some 11, op := Op.fieldAddr 26 (Operand.tmp 3) 1, type := 0, pos := "ref.go:88", after := #[], guard := none }) (v := ?_) rfl (by kernel_rfl) (by kernel_rfl) (by kernel_rfl) (fun _ _ _ h => h) (Or.inl ⟨by rfl, ?_⟩) (by assumption) ?_
  rotate_left
  · intro w hSw; (try dsimp only at hSw); go_simp; try (with_reducible rfl)
  try simp only [Act.put, List.setIfInBounds_toArray, List.set_cons_zero, List.set_cons_succ]
  refine wpAnyH_take (i := 4) (oi := { dst := some 12, op := Op.load 22 (Operand.tmp 11), type := 22, pos := "ref.go:88", after := #[{ on := 3, ground := Ground.data }], guard := none }) (v := ?_) rfl (by kernel_rfl) (by kernel_rfl) (by kernel_rfl) (fun _ _ _ h => h) (Or.inl ⟨by rfl, ?_⟩) (by assumption) ?_
  rotate_left
  · intro w hSw; (try dsimp only at hSw); go_simp; try (with_reducible rfl)
  try simp only [Act.put, List.setIfInBounds_toArray, List.set_cons_zero, List.set_cons_succ]
  clear hHeld
  have cs := (sw_keep (And.intro HST.out trivial) ((Below.refl _ w1).drew)).1
  clear HST
  generalize World.drew _ = w2 at cs ⊢
  refine wpAnyH_ready (rs := [2, 7]) (by kernel_rfl) (by simp) ?_
  refine AllReadyH.cons (o := { dst := some 10, op := Op.call { callee := Callee.builtin Builtin.append, args := #[Operand.const (Value.slice none 0 0), Operand.tmp 9], argTypes := #[22, 22] }, type := 22, pos := "ref.go:88", after := #[{ on := 1, ground := Ground.data }], guard := none }) rfl (fun K_ hK => ?_) (AllReadyH.cons (o := { dst := some 7, op := Op.alloc 26, type := 0, pos := "ref.go:88", after := #[], guard := none }) rfl (fun K_ hK => ?_) AllReadyH.nil)
  · skip
    have hz2 : A + 2 ≤ w2.heap.size := heap_lt cs.bx.hr
    refine step_append_copy _ rfl _ _ rfl rfl rfl ko m _ K rfl hm (sw_k HA.out (And.intro cs trivial) HK.out) ?_
    intro go c u2 rowK be
    refine hK.out _ _ (sw_keep (And.intro cs trivial) be) (fun _ => ?_)
    clear hK K_
    have cs := (sw_keep (And.intro cs trivial) be).1
    clear be
    try simp only [Act.put, List.setIfInBounds_toArray, List.set_cons_zero, List.set_cons_succ]
    refine wpAnyH_ready (rs := [5, 7]) (by kernel_rfl) (by simp) ?_
    refine AllReadyH.cons (o := { dst := some 13, op := Op.call { callee := Callee.builtin Builtin.append, args := #[Operand.const (Value.slice none 0 0), Operand.tmp 12], argTypes := #[22, 22] }, type := 22, pos := "ref.go:88", after := #[{ on := 4, ground := Ground.data }, { on := 2, ground := Ground.chain }], guard := none }) rfl (fun K_ hK => ?_) (AllReadyH.cons (o := { dst := some 7, op := Op.alloc 26, type := 0, pos := "ref.go:88", after := #[], guard := none }) rfl (fun K_ hK => ?_) AllReadyH.nil)
    · skip
      have hz5 : A + 2 ≤ u2.heap.size := heap_lt cs.bx.hr
      refine step_append_copy _ rfl _ _ rfl rfl rfl bo q _ Y rfl hq (sw_k HA.out (And.intro cs trivial) HY.out) ?_
      intro ho d u5 rowB be
      have neKB : ∀ x, (Value.slice go m c).ownBlock = some x → (Value.slice ho q d).ownBlock ≠ some x := fun x hx hy => by have h1 := (rowK.lt x hx).2; have h2 := (rowB.lt x hy).1; omega
      have rowK := row_stays rowK be
      refine hK.out _ _ (sw_keep (And.intro cs trivial) be) (fun _ => ?_)
      clear hK K_
      have cs := (sw_keep (And.intro cs trivial) be).1
      clear be
      try simp only [Act.put, List.setIfInBounds_toArray, List.set_cons_zero, List.set_cons_succ]
      refine wpAnyH_take (i := 6) (oi := { dst := some 14, op := Op.build 26 #[(0, Operand.tmp 10), (1, Operand.tmp 13)], type := 26, pos := "ref.go:88", after := #[{ on := 2, ground := Ground.data }, { on := 5, ground := Ground.data }], guard := none }) (v := ?_) rfl (by kernel_rfl) (by kernel_rfl) (by kernel_rfl) (fun _ _ _ h => h) (Or.inl ⟨by rfl, ?_⟩) (by assumption) ?_
      rotate_left
      · intro w hSw; (try dsimp only at hSw); go_simp; try (with_reducible rfl)
      try simp only [Act.put, List.setIfInBounds_toArray, List.set_cons_zero, List.set_cons_succ]
      refine wpAnyH_ready (rs := [7]) (by kernel_rfl) (by simp) ?_
      refine AllReadyH.cons (o := { dst := some 7, op := Op.alloc 26, type := 0, pos := "ref.go:88", after := #[], guard := none }) rfl (fun K_ hK => ?_) AllReadyH.nil
      go_simp
      have be := Joins.below_alloc1 u5 (.cells #[.slice none 0 0, .slice none 0 0] 26)
      refine hK.out _ _ (sw_keep (And.intro cs trivial) be) (fun _ => ?_)
      clear hK K_
      obtain ⟨C, hC0⟩ : ∃ C, C = u5.heap.size := ⟨_, rfl⟩
      have hC : (u5.alloc (.cells #[.slice none 0 0, .slice none 0 0] 26)).heap[C]? = some (.cells #[.slice none 0 0, .slice none 0 0] 26 (0, 0)) := by rw [hC0]; show (u5.heap.push _)[_]? = _; rw [Array.getElem?_push, if_pos rfl]
      have hCA : A + 1 < C := by rw [hC0]; exact heap_lt cs.bx.hr
      have neK : (Value.slice go m c).ownBlock ≠ some C := fun hk => by have := (rowK.lt C hk).2; omega
      have rowK := row_stays rowK be
      have neB : (Value.slice ho q d).ownBlock ≠ some C := fun hk => by have := (rowB.lt C hk).2; omega
      have rowB := row_stays rowB be
      have cs := (sw_keep (And.intro cs trivial) be).1
      try simp only [Act.put, List.setIfInBounds_toArray, List.set_cons_zero, List.set_cons_succ]
      simp only [← hC0]
      clear be hC0
      generalize World.alloc _ _ = ua at *
      refine wpAnyH_ready (rs := [8]) (by kernel_rfl) (by simp) ?_
      refine AllReadyH.cons (o := { dst := none, op := Op.store 26 (Operand.tmp 7) (Operand.tmp 14), type := 0, pos := "ref.go:88", after := #[{ on := 7, ground := Ground.data }, { on := 6, ground := Ground.data }, { on := 5, ground := Ground.chain }, { on := 0, ground := Ground.phase }, { on := 1, ground := Ground.phase }, { on := 2, ground := Ground.phase }, { on := 3, ground := Ground.phase }, { on := 4, ground := Ground.phase }, { on := 5, ground := Ground.phase }, { on := 6, ground := Ground.phase }, { on := 7, ground := Ground.phase }], guard := none }) rfl (fun K_ hK => ?_) AllReadyH.nil
      have d0 := cell_of_row _ C 0 _ _ _ hC
      have d1 := cell_of_row _ C 1 _ _ _ hC
      simp only [List.getElem?_toArray, List.getElem?_cons_zero, List.getElem?_cons_succ] at d0 d1
      have f0 := frozen_of_row _ C 0 _ _ hC
      have f1 := frozen_of_row _ C 1 _ _ hC
      have hl := heap_lt hC
      have FI := hid (W2.mk (A := A) (C := C) cs.bx hC (row_mono rowK hz2) (row_mono rowB hz5) neK neB neKB hCA)
      go_simp
      refine hK.out _ _ (sw_set (And.intro cs trivial) (by omega) _ _) (fun _ => ?_)
      clear hK K_
      try simp only [Act.put, List.setIfInBounds_toArray, List.set_cons_zero, List.set_cons_succ]
      refine wpAnyH_done (by kernel_rfl) ?_ _
      clear d0 d1 f0 f1 hl neK neB neKB rowK rowB hC cs hCA
      have FI := hid (FI.out.put (.slice go m c) (.slice ho q d))
      generalize World.setCell _ _ _ = wz at FI ⊢
      have hr1 := FI.out.row1
      obtain ⟨g, c', e, hgA, hgl⟩ := hr1.form (by omega)
      cases e
      have hgC : g ≠ C := by have := FI.out.nk; simpa [Value.ownBlock] using this
      have hCA := FI.out.ca
      have b0 : wz.cell? ⟨C, 0, none⟩ = some (.slice (some ⟨g, 0, none⟩) m c) := cell_of_row wz C 0 _ _ _ FI.out.hc
      have b1 : wz.cell? ⟨C, 1, none⟩ = some (.slice ho q d) := cell_of_row wz C 1 _ _ _ FI.out.hc
      have c1 := (hr1.cellAt t (by omega)).trans (vals_get _ ht)
      have c2 := hr1.frozenAt t
      clear hr1
      go_upto_region 3 with fail
      have FJ := hid (FI.out.turn t k hgA)
      clear b0 b1 c1 c2 FI
      generalize World.setCell _ _ _ = wy at FJ ⊢
      have b0 : wy.cell? ⟨C, 0, none⟩ = some (.slice (some ⟨g, 0, none⟩) m c) := cell_of_row wy C 0 _ _ _ FJ.out.hc
      have b1 : wy.cell? ⟨C, 1, none⟩ = some (.slice ho q d) := cell_of_row wy C 1 _ _ _ FJ.out.hc
      have r0 : wy.cell? ⟨A + 1, 0, none⟩ = some (.slice none 0 0) := cell_of_row wy (A + 1) 0 _ _ _ FJ.out.bx.hr
      have r1 : wy.cell? ⟨A + 1, 1, none⟩ = some (.slice none 0 0) := cell_of_row wy (A + 1) 1 _ _ _ FJ.out.bx.hr
      have g0 : wy.frozen? ⟨A + 1, 0, none⟩ = false := frozen_of_row wy (A + 1) 0 _ _ FJ.out.bx.hr
      have g1 : wy.frozen? ⟨A + 1, 1, none⟩ = false := frozen_of_row wy (A + 1) 1 _ _ FJ.out.bx.hr
      go_wp2_with fail
      have k3 := set2 FJ.out.bx.hr (.slice (some ⟨g, 0, none⟩) m c) (.slice ho q d)
      have k4 := set2_below (g := A + 1) FJ.out.bx.below (Nat.le_succ _) (.slice (some ⟨g, 0, none⟩) m c) (.slice ho q d)
      have k5 := set2_row (g := A + 1) FJ.out.row1 (own_ne FJ.out.row1 (a := ⟨A + 1, 0, none⟩) (Nat.lt_succ_self _)) (.slice (some ⟨g, 0, none⟩) m c) (.slice ho q d)
      have k6 := set2_row (g := A + 1) FJ.out.row2 (own_ne FJ.out.row2 (a := ⟨A + 1, 0, none⟩) (Nat.lt_succ_self _)) (.slice (some ⟨g, 0, none⟩) m c) (.slice ho q d)
      clear b0 b1 r0 r1 g0 g1
      generalize World.setCell _ _ _ = w5 at k3 k4 k5 k6 ⊢
      have q0 := cell_of_row w5 (A + 1) 0 _ _ _ k3
      have q1 := cell_of_row w5 (A + 1) 1 _ _ _ k3
      simp at q0 q1
      exact bodyPost_ret (v := .agg #[.slice (some ⟨g, 0, none⟩) m c, .slice ho q d]) (by simp [results, Try.results49, go_sem, q0, q1]) rfl ⟨some ⟨g, 0, none⟩, c, ho, d, rfl, by rw [← HA.out]; exact row_mono k5 (by omega), by rw [← HA.out]; exact row_mono k6 (by omega), by rw [← HA.out]; exact k4⟩
    · skip
      go_simp
      have be := Joins.below_alloc1 u2 (.cells #[.slice none 0 0, .slice none 0 0] 26)
      refine hK.out _ _ (sw_keep (And.intro cs trivial) be) (fun _ => ?_)
      clear hK K_
      obtain ⟨C, hC0⟩ : ∃ C, C = u2.heap.size := ⟨_, rfl⟩
      have hC : (u2.alloc (.cells #[.slice none 0 0, .slice none 0 0] 26)).heap[C]? = some (.cells #[.slice none 0 0, .slice none 0 0] 26 (0, 0)) := by rw [hC0]; show (u2.heap.push _)[_]? = _; rw [Array.getElem?_push, if_pos rfl]
      have hCA : A + 1 < C := by rw [hC0]; exact heap_lt cs.bx.hr
      have neK : (Value.slice go m c).ownBlock ≠ some C := fun hk => by have := (rowK.lt C hk).2; omega
      have rowK := row_stays rowK be
      have cs := (sw_keep (And.intro cs trivial) be).1
      try simp only [Act.put, List.setIfInBounds_toArray, List.set_cons_zero, List.set_cons_succ]
      simp only [← hC0]
      clear be hC0
      generalize World.alloc _ _ = ua at *
      refine wpAnyH_ready (rs := [5]) (by kernel_rfl) (by simp) ?_
      refine AllReadyH.cons (o := { dst := some 13, op := Op.call { callee := Callee.builtin Builtin.append, args := #[Operand.const (Value.slice none 0 0), Operand.tmp 12], argTypes := #[22, 22] }, type := 22, pos := "ref.go:88", after := #[{ on := 4, ground := Ground.data }, { on := 2, ground := Ground.chain }], guard := none }) rfl (fun K_ hK => ?_) AllReadyH.nil
      have hz5 : A + 2 ≤ ua.heap.size := heap_lt cs.bx.hr
      refine step_append_copy _ rfl _ _ rfl rfl rfl bo q _ Y rfl hq (sw_k HA.out (And.intro cs trivial) HY.out) ?_
      intro ho d u5 rowB be
      have neKB : ∀ x, (Value.slice go m c).ownBlock = some x → (Value.slice ho q d).ownBlock ≠ some x := fun x hx hy => by have h1 := (rowK.lt x hx).2; have h2 := (rowB.lt x hy).1; omega
      have neB : (Value.slice ho q d).ownBlock ≠ some C := own_ne rowB (a := ⟨C, 0, none⟩) (heap_lt hC)
      have rowK := row_stays rowK be
      have hC := (be.block C (heap_lt hC)).trans hC
      refine hK.out _ _ (sw_keep (And.intro cs trivial) be) (fun _ => ?_)
      clear hK K_
      have cs := (sw_keep (And.intro cs trivial) be).1
      clear be
      try simp only [Act.put, List.setIfInBounds_toArray, List.set_cons_zero, List.set_cons_succ]
      refine wpAnyH_take (i := 6) (oi := { dst := some 14, op := Op.build 26 #[(0, Operand.tmp 10), (1, Operand.tmp 13)], type := 26, pos := "ref.go:88", after := #[{ on := 2, ground := Ground.data }, { on := 5, ground := Ground.data }], guard := none }) (v := ?_) rfl (by kernel_rfl) (by kernel_rfl) (by kernel_rfl) (fun _ _ _ h => h) (Or.inl ⟨by rfl, ?_⟩) (by assumption) ?_
      rotate_left
      · intro w hSw; (try dsimp only at hSw); go_simp; try (with_reducible rfl)
      try simp only [Act.put, List.setIfInBounds_toArray, List.set_cons_zero, List.set_cons_succ]
      refine wpAnyH_ready (rs := [8]) (by kernel_rfl) (by simp) ?_
      refine AllReadyH.cons (o := { dst := none, op := Op.store 26 (Operand.tmp 7) (Operand.tmp 14), type := 0, pos := "ref.go:88", after := #[{ on := 7, ground := Ground.data }, { on := 6, ground := Ground.data }, { on := 5, ground := Ground.chain }, { on := 0, ground := Ground.phase }, { on := 1, ground := Ground.phase }, { on := 2, ground := Ground.phase }, { on := 3, ground := Ground.phase }, { on := 4, ground := Ground.phase }, { on := 5, ground := Ground.phase }, { on := 6, ground := Ground.phase }, { on := 7, ground := Ground.phase }], guard := none }) rfl (fun K_ hK => ?_) AllReadyH.nil
      have d0 := cell_of_row _ C 0 _ _ _ hC
      have d1 := cell_of_row _ C 1 _ _ _ hC
      simp only [List.getElem?_toArray, List.getElem?_cons_zero, List.getElem?_cons_succ] at d0 d1
      have f0 := frozen_of_row _ C 0 _ _ hC
      have f1 := frozen_of_row _ C 1 _ _ hC
      have hl := heap_lt hC
      have FI := hid (W2.mk (A := A) (C := C) cs.bx hC (row_mono rowK hz2) (row_mono rowB hz5) neK neB neKB hCA)
      go_simp
      refine hK.out _ _ (sw_set (And.intro cs trivial) (by omega) _ _) (fun _ => ?_)
      clear hK K_
      try simp only [Act.put, List.setIfInBounds_toArray, List.set_cons_zero, List.set_cons_succ]
      refine wpAnyH_done (by kernel_rfl) ?_ _
      clear d0 d1 f0 f1 hl neK neB neKB rowK rowB hC cs hCA
      have FI := hid (FI.out.put (.slice go m c) (.slice ho q d))
      generalize World.setCell _ _ _ = wz at FI ⊢
      have hr1 := FI.out.row1
      obtain ⟨g, c', e, hgA, hgl⟩ := hr1.form (by omega)
      cases e
      have hgC : g ≠ C := by have := FI.out.nk; simpa [Value.ownBlock] using this
      have hCA := FI.out.ca
      have b0 : wz.cell? ⟨C, 0, none⟩ = some (.slice (some ⟨g, 0, none⟩) m c) := cell_of_row wz C 0 _ _ _ FI.out.hc
      have b1 : wz.cell? ⟨C, 1, none⟩ = some (.slice ho q d) := cell_of_row wz C 1 _ _ _ FI.out.hc
      have c1 := (hr1.cellAt t (by omega)).trans (vals_get _ ht)
      have c2 := hr1.frozenAt t
      clear hr1
      go_upto_region 3 with fail
      have FJ := hid (FI.out.turn t k hgA)
      clear b0 b1 c1 c2 FI
      generalize World.setCell _ _ _ = wy at FJ ⊢
      have b0 : wy.cell? ⟨C, 0, none⟩ = some (.slice (some ⟨g, 0, none⟩) m c) := cell_of_row wy C 0 _ _ _ FJ.out.hc
      have b1 : wy.cell? ⟨C, 1, none⟩ = some (.slice ho q d) := cell_of_row wy C 1 _ _ _ FJ.out.hc
      have r0 : wy.cell? ⟨A + 1, 0, none⟩ = some (.slice none 0 0) := cell_of_row wy (A + 1) 0 _ _ _ FJ.out.bx.hr
      have r1 : wy.cell? ⟨A + 1, 1, none⟩ = some (.slice none 0 0) := cell_of_row wy (A + 1) 1 _ _ _ FJ.out.bx.hr
      have g0 : wy.frozen? ⟨A + 1, 0, none⟩ = false := frozen_of_row wy (A + 1) 0 _ _ FJ.out.bx.hr
      have g1 : wy.frozen? ⟨A + 1, 1, none⟩ = false := frozen_of_row wy (A + 1) 1 _ _ FJ.out.bx.hr
      go_wp2_with fail
      have k3 := set2 FJ.out.bx.hr (.slice (some ⟨g, 0, none⟩) m c) (.slice ho q d)
      have k4 := set2_below (g := A + 1) FJ.out.bx.below (Nat.le_succ _) (.slice (some ⟨g, 0, none⟩) m c) (.slice ho q d)
      have k5 := set2_row (g := A + 1) FJ.out.row1 (own_ne FJ.out.row1 (a := ⟨A + 1, 0, none⟩) (Nat.lt_succ_self _)) (.slice (some ⟨g, 0, none⟩) m c) (.slice ho q d)
      have k6 := set2_row (g := A + 1) FJ.out.row2 (own_ne FJ.out.row2 (a := ⟨A + 1, 0, none⟩) (Nat.lt_succ_self _)) (.slice (some ⟨g, 0, none⟩) m c) (.slice ho q d)
      clear b0 b1 r0 r1 g0 g1
      generalize World.setCell _ _ _ = w5 at k3 k4 k5 k6 ⊢
      have q0 := cell_of_row w5 (A + 1) 0 _ _ _ k3
      have q1 := cell_of_row w5 (A + 1) 1 _ _ _ k3
      simp at q0 q1
      exact bodyPost_ret (v := .agg #[.slice (some ⟨g, 0, none⟩) m c, .slice ho q d]) (by simp [results, Try.results49, go_sem, q0, q1]) rfl ⟨some ⟨g, 0, none⟩, c, ho, d, rfl, by rw [← HA.out]; exact row_mono k5 (by omega), by rw [← HA.out]; exact row_mono k6 (by omega), by rw [← HA.out]; exact k4⟩
  · skip
    go_simp
    have be := Joins.below_alloc1 w2 (.cells #[.slice none 0 0, .slice none 0 0] 26)
    refine hK.out _ _ (sw_keep (And.intro cs trivial) be) (fun _ => ?_)
    clear hK K_
    obtain ⟨C, hC0⟩ : ∃ C, C = w2.heap.size := ⟨_, rfl⟩
    have hC : (w2.alloc (.cells #[.slice none 0 0, .slice none 0 0] 26)).heap[C]? = some (.cells #[.slice none 0 0, .slice none 0 0] 26 (0, 0)) := by rw [hC0]; show (w2.heap.push _)[_]? = _; rw [Array.getElem?_push, if_pos rfl]
    have hCA : A + 1 < C := by rw [hC0]; exact heap_lt cs.bx.hr
    have cs := (sw_keep (And.intro cs trivial) be).1
    try simp only [Act.put, List.setIfInBounds_toArray, List.set_cons_zero, List.set_cons_succ]
    simp only [← hC0]
    clear be hC0
    generalize World.alloc _ _ = ua at *
    refine wpAnyH_ready (rs := [2]) (by kernel_rfl) (by simp) ?_
    refine AllReadyH.cons (o := { dst := some 10, op := Op.call { callee := Callee.builtin Builtin.append, args := #[Operand.const (Value.slice none 0 0), Operand.tmp 9], argTypes := #[22, 22] }, type := 22, pos := "ref.go:88", after := #[{ on := 1, ground := Ground.data }], guard := none }) rfl (fun K_ hK => ?_) AllReadyH.nil
    have hz2 : A + 2 ≤ ua.heap.size := heap_lt cs.bx.hr
    refine step_append_copy _ rfl _ _ rfl rfl rfl ko m _ K rfl hm (sw_k HA.out (And.intro cs trivial) HK.out) ?_
    intro go c u2 rowK be
    have neK : (Value.slice go m c).ownBlock ≠ some C := own_ne rowK (a := ⟨C, 0, none⟩) (heap_lt hC)
    have hC := (be.block C (heap_lt hC)).trans hC
    refine hK.out _ _ (sw_keep (And.intro cs trivial) be) (fun _ => ?_)
    clear hK K_
    have cs := (sw_keep (And.intro cs trivial) be).1
    clear be
    try simp only [Act.put, List.setIfInBounds_toArray, List.set_cons_zero, List.set_cons_succ]
    refine wpAnyH_ready (rs := [5]) (by kernel_rfl) (by simp) ?_
    refine AllReadyH.cons (o := { dst := some 13, op := Op.call { callee := Callee.builtin Builtin.append, args := #[Operand.const (Value.slice none 0 0), Operand.tmp 12], argTypes := #[22, 22] }, type := 22, pos := "ref.go:88", after := #[{ on := 4, ground := Ground.data }, { on := 2, ground := Ground.chain }], guard := none }) rfl (fun K_ hK => ?_) AllReadyH.nil
    have hz5 : A + 2 ≤ u2.heap.size := heap_lt cs.bx.hr
    refine step_append_copy _ rfl _ _ rfl rfl rfl bo q _ Y rfl hq (sw_k HA.out (And.intro cs trivial) HY.out) ?_
    intro ho d u5 rowB be
    have neB : (Value.slice ho q d).ownBlock ≠ some C := own_ne rowB (a := ⟨C, 0, none⟩) (heap_lt hC)
    have neKB : ∀ x, (Value.slice go m c).ownBlock = some x → (Value.slice ho q d).ownBlock ≠ some x := fun x hx hy => by have h1 := (rowK.lt x hx).2; have h2 := (rowB.lt x hy).1; omega
    have hC := (be.block C (heap_lt hC)).trans hC
    have rowK := row_stays rowK be
    refine hK.out _ _ (sw_keep (And.intro cs trivial) be) (fun _ => ?_)
    clear hK K_
    have cs := (sw_keep (And.intro cs trivial) be).1
    clear be
    try simp only [Act.put, List.setIfInBounds_toArray, List.set_cons_zero, List.set_cons_succ]
    refine wpAnyH_take (i := 6) (oi := { dst := some 14, op := Op.build 26 #[(0, Operand.tmp 10), (1, Operand.tmp 13)], type := 26, pos := "ref.go:88", after := #[{ on := 2, ground := Ground.data }, { on := 5, ground := Ground.data }], guard := none }) (v := ?_) rfl (by kernel_rfl) (by kernel_rfl) (by kernel_rfl) (fun _ _ _ h => h) (Or.inl ⟨by rfl, ?_⟩) (by assumption) ?_
    rotate_left
    · intro w hSw; (try dsimp only at hSw); go_simp; try (with_reducible rfl)
    try simp only [Act.put, List.setIfInBounds_toArray, List.set_cons_zero, List.set_cons_succ]
    refine wpAnyH_ready (rs := [8]) (by kernel_rfl) (by simp) ?_
    refine AllReadyH.cons (o := { dst := none, op := Op.store 26 (Operand.tmp 7) (Operand.tmp 14), type := 0, pos := "ref.go:88", after := #[{ on := 7, ground := Ground.data }, { on := 6, ground := Ground.data }, { on := 5, ground := Ground.chain }, { on := 0, ground := Ground.phase }, { on := 1, ground := Ground.phase }, { on := 2, ground := Ground.phase }, { on := 3, ground := Ground.phase }, { on := 4, ground := Ground.phase }, { on := 5, ground := Ground.phase }, { on := 6, ground := Ground.phase }, { on := 7, ground := Ground.phase }], guard := none }) rfl (fun K_ hK => ?_) AllReadyH.nil
    have d0 := cell_of_row _ C 0 _ _ _ hC
    have d1 := cell_of_row _ C 1 _ _ _ hC
    simp only [List.getElem?_toArray, List.getElem?_cons_zero, List.getElem?_cons_succ] at d0 d1
    have f0 := frozen_of_row _ C 0 _ _ hC
    have f1 := frozen_of_row _ C 1 _ _ hC
    have hl := heap_lt hC
    have FI := hid (W2.mk (A := A) (C := C) cs.bx hC (row_mono rowK hz2) (row_mono rowB hz5) neK neB neKB hCA)
    go_simp
    refine hK.out _ _ (sw_set (And.intro cs trivial) (by omega) _ _) (fun _ => ?_)
    clear hK K_
    try simp only [Act.put, List.setIfInBounds_toArray, List.set_cons_zero, List.set_cons_succ]
    refine wpAnyH_done (by kernel_rfl) ?_ _
    clear d0 d1 f0 f1 hl neK neB neKB rowK rowB hC cs hCA
    have FI := hid (FI.out.put (.slice go m c) (.slice ho q d))
    generalize World.setCell _ _ _ = wz at FI ⊢
    have hr1 := FI.out.row1
    obtain ⟨g, c', e, hgA, hgl⟩ := hr1.form (by omega)
    cases e
    have hgC : g ≠ C := by have := FI.out.nk; simpa [Value.ownBlock] using this
    have hCA := FI.out.ca
    have b0 : wz.cell? ⟨C, 0, none⟩ = some (.slice (some ⟨g, 0, none⟩) m c) := cell_of_row wz C 0 _ _ _ FI.out.hc
    have b1 : wz.cell? ⟨C, 1, none⟩ = some (.slice ho q d) := cell_of_row wz C 1 _ _ _ FI.out.hc
    have c1 := (hr1.cellAt t (by omega)).trans (vals_get _ ht)
    have c2 := hr1.frozenAt t
    clear hr1
    go_upto_region 3 with fail
    have FJ := hid (FI.out.turn t k hgA)
    clear b0 b1 c1 c2 FI
    generalize World.setCell _ _ _ = wy at FJ ⊢
    have b0 : wy.cell? ⟨C, 0, none⟩ = some (.slice (some ⟨g, 0, none⟩) m c) := cell_of_row wy C 0 _ _ _ FJ.out.hc
    have b1 : wy.cell? ⟨C, 1, none⟩ = some (.slice ho q d) := cell_of_row wy C 1 _ _ _ FJ.out.hc
    have r0 : wy.cell? ⟨A + 1, 0, none⟩ = some (.slice none 0 0) := cell_of_row wy (A + 1) 0 _ _ _ FJ.out.bx.hr
    have r1 : wy.cell? ⟨A + 1, 1, none⟩ = some (.slice none 0 0) := cell_of_row wy (A + 1) 1 _ _ _ FJ.out.bx.hr
    have g0 : wy.frozen? ⟨A + 1, 0, none⟩ = false := frozen_of_row wy (A + 1) 0 _ _ FJ.out.bx.hr
    have g1 : wy.frozen? ⟨A + 1, 1, none⟩ = false := frozen_of_row wy (A + 1) 1 _ _ FJ.out.bx.hr
    go_wp2_with fail
    have k3 := set2 FJ.out.bx.hr (.slice (some ⟨g, 0, none⟩) m c) (.slice ho q d)
    have k4 := set2_below (g := A + 1) FJ.out.bx.below (Nat.le_succ _) (.slice (some ⟨g, 0, none⟩) m c) (.slice ho q d)
    have k5 := set2_row (g := A + 1) FJ.out.row1 (own_ne FJ.out.row1 (a := ⟨A + 1, 0, none⟩) (Nat.lt_succ_self _)) (.slice (some ⟨g, 0, none⟩) m c) (.slice ho q d)
    have k6 := set2_row (g := A + 1) FJ.out.row2 (own_ne FJ.out.row2 (a := ⟨A + 1, 0, none⟩) (Nat.lt_succ_self _)) (.slice (some ⟨g, 0, none⟩) m c) (.slice ho q d)
    clear b0 b1 r0 r1 g0 g1
    generalize World.setCell _ _ _ = w5 at k3 k4 k5 k6 ⊢
    have q0 := cell_of_row w5 (A + 1) 0 _ _ _ k3
    have q1 := cell_of_row w5 (A + 1) 1 _ _ _ k3
    simp at q0 q1
    exact bodyPost_ret (v := .agg #[.slice (some ⟨g, 0, none⟩) m c, .slice ho q d]) (by simp [results, Try.results49, go_sem, q0, q1]) rfl ⟨some ⟨g, 0, none⟩, c, ho, d, rfl, by rw [← HA.out]; exact row_mono k5 (by omega), by rw [← HA.out]; exact row_mono k6 (by omega), by rw [← HA.out]; exact k4⟩
end Go.Proofs.Ytkpnngpnjimogaa
