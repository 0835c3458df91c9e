/-
  The walk of slices.Repeat of one number.
-/
import Derived.Test.YtaepiegbpgkciaaArms
import Derived.Shelf.Bits.Mul64
import Derived.Laws.CopyOwn
import Derived.Deep.DeepCutAuto
namespace Go.Proofs.Ytaepiegbpgkciaa
open Go.RowKit

set_option maxHeartbeats 1600000 in
theorem mul64_one (n : Nat) (hn : n ≤ 1024) (w : World) : Calls Try.prog 76 #[.int .u64 1, .int .u64 n] w fun e w' => e = .returned (.tuple #[.int .u64 0, .int .u64 n]) ∧ w = w' := by
  have m1 : bits .and .u64 1 4294967295 = 1 := by decide +kernel
  have m0 : bits .and .u64 0 4294967295 = 0 := by decide +kernel
  have m2 : bits .and .u64 (n : Int) 4294967295 = (n : Int) := by rw [Mul64.maskN n (by omega)]; congr 1; omega
  have d1 : (n : Int) / 4294967296 = 0 := by omega
  have w1 : IntKind.u64.wrap (n : Int) = (n : Int) := by rw [IntKind.wrap_u64]; omega
  go_enter Try.func76, Try.ntmps76
  go_wp2
  go_ret2
  exact ⟨rfl, rfl⟩
set_option maxHeartbeats 1600000 in
theorem mul_one (n : Nat) (hn : n ≤ 1024) (w : World) : Calls Try.prog 71 #[.int .u64 1, .int .u64 n] w fun e w' => e = .returned (.tuple #[.int .u64 0, .int .u64 n]) ∧ w = w' := by
  go_enter Try.func71, Try.ntmps71
  go_wp2_with (go_at_call 76; refine (mul64_one n hn _).mono ?_; rintro e w' ⟨rfl, rfl⟩)
  go_ret2
  exact ⟨rfl, rfl⟩
theorem run_mkn (n : Nat) (hn : n ≤ 1024) (w : World) : (Instr.makeSlice 22 (.int .i64 (n : Int)) (.int .i64 (n : Int))).run Try.prog w = .ok (.slice (some ⟨w.heap.size, 0, none⟩) n n) (w.alloc (.cells (madeCells #[.int .i64 0] n) 3)) := by
  obtain ⟨i0, hi, hz0, hz1, hz2⟩ := info_parts info3
  have := run_make (P := Try.prog) w 22 3 i0 (.int .i64 0) Try.underlying22 hi hz0 .i64 .i64 (n : Int) (n : Int) (by omega) (Int.le_refl _) (by rw [hz2]; omega) (by omega)
  rw [this]; simp [hz1, Value.cells]
theorem size3 : (Try.prog.info? 3).map (·.size) = some 1 := by kernel_rfl
/-- The cells of a row whose first k are filled. -/
def Fill (x : Value) (n k : Nat) (cur : List Value) : Prop := cur.length = n ∧ ∀ j, j < k → cur[j]? = some x
theorem Fill.more {x : Value} {n k c : Nat} {cur : List Value} (h : Fill x n k cur) (hk : k + c ≤ n) : Fill x n (k + c) (splice cur k (List.replicate c x)) := by
  have hl := h.1
  refine ⟨by rw [length_splice _ _ _ (by simp; omega)]; exact hl, fun j hj => ?_⟩
  unfold splice
  by_cases h1 : j < k
  · rw [List.getElem?_append_left (by simp; omega), List.getElem?_take_of_lt h1]
    exact h.2 j h1
  · rw [List.getElem?_append_right (by simp; omega)]
    have e : j - (cur.take k).length = j - k := by rw [List.length_take, Nat.min_eq_left (by omega)]
    rw [e, List.getElem?_append_left (by simp; omega), List.getElem?_replicate, if_pos (by omega)]
theorem Fill.whole {x : Value} {n : Nat} {cur : List Value} (h : Fill x n n cur) : cur = vals n (fun _ => x) := by
  apply List.ext_getElem?
  intro i
  by_cases hi : i < n
  · rw [h.2 i hi, vals_get _ hi]
  · rw [List.getElem?_eq_none (by rw [h.1]; omega), List.getElem?_eq_none (by rw [vals_length]; omega)]

theorem src1 {b off : Nat} {x : Value} {w : World} {o : Obj} (hb : b < w.heap.size) (hc : w.cell? ⟨b, off, none⟩ = some x) : ∀ j v, [x][j]? = some v → (w.alloc o).cell? ((⟨b, off, none⟩ : Addr).add j) = some v := fun j v hj => by
  match j, hj with
  | 0, hj => simp at hj; subst hj; rw [Addr.add_lit, World.cell?_alloc_past _ _ _ hb]; exact hc
theorem src2 {A k n d : Nat} {x : Value} {w : World} {cur : List Value} (h : Fill x n k cur ∧ w.heap[A]? = some (.cells cur.toArray 3 (0, 0))) (hd : d ≤ k) : ∀ j v, (List.replicate d x)[j]? = some v → w.drew.cell? ((⟨A, 0, none⟩ : Addr).add j) = some v := fun j v hj => by
  have hjd : j < d := by have := (List.getElem?_eq_some_iff.1 hj).1; simpa using this
  rw [List.getElem?_replicate, if_pos hjd] at hj
  rw [Addr.add_lit, World.cell?_drew, Nat.zero_add, cell_of_row w A j _ _ _ h.2, ← hj]
  simpa using h.1.2 j (by omega)
set_option maxHeartbeats 6400000 in
theorem repeat_any (b off c : Nat) (x : Int) (n : Nat) (h16 : 16 ≤ n) (hn : n ≤ 1024) (w : World) (hb : b < w.heap.size) (hc : w.cell? ⟨b, off, none⟩ = some (.int .i64 x)) :
    Calls Try.prog 59 #[.slice (some ⟨b, off, none⟩) 1 c, .int .i64 n] w fun r w' =>
      ∃ g, r = .returned (.slice (some ⟨g, 0, none⟩) n n) ∧ w'.ownsRow w.heap.size 3 1 (.slice (some ⟨g, 0, none⟩) n n) n (vals n (fun _ => .int .i64 x)) ∧ Below w.heap.size w w' := by
  have hmk := run_mkn n hn
  have HC := hid hc
  have HB := hid hb
  have wn : IntKind.u64.wrap (n : Int) = (n : Int) := by rw [IntKind.wrap_u64]; omega
  obtain ⟨A, hA⟩ : ∃ A, A = w.heap.size := ⟨_, rfl⟩
  have HA := hid hA
  obtain ⟨cur0, hcur0⟩ : ∃ cur0 : List Value, cur0 = (madeCells #[.int .i64 0] n).toList := ⟨_, rfl⟩
  have HC0 := hid hcur0
  have HMN : Hid (([Value.int .i64 x] : List Value).length = Nat.min 1 n) := hid (by show 1 = min 1 n; omega)
  clear hb hc hcur0
  go_enter Try.func59, Try.ntmps59
  go_upto_region 7 with (go_at_call 71; refine (mul_one n hn _).mono ?_; rintro e w' ⟨rfl, rfl⟩)
  go_wp2_with ((with_reducible show wpList _ _ _ (Oper.mk (some 33) _ _ _ _ _ :: _) _ _); go_loud (refine wpList_copy_splice rfl (.tmp 31) (.tmp 32) 22 22 rfl 3 Try.underlying22 size3 (some ⟨w.heap.size, 0, none⟩) (some ⟨b, off, none⟩) n n 1 c rfl rfl w.heap.size 0 cur0 3 (by rw [HC0.out, Array.toArray_toList]; exact heap_alloc_new w _) [.int .i64 x] HMN.out (fun _ => ⟨rfl, _, rfl, src1 HB.out HC.out⟩) (by rw [HC0.out]; simp [madeCells]; omega) (fun v hv => by simp at hv; subst hv; rfl) w.heap.size w (Joins.below_alloc1 _ _) (Nat.le_refl _) ?_))
  intro w1 hg1 hb1
  have HF : Hid (∃ cur, Fill (.int .i64 x) n 1 cur ∧ w1.heap[A]? = some (.cells cur.toArray 3 (0, 0))) := hid ⟨_, Fill.more (k := 0) (c := 1) (cur := cur0) ⟨by rw [HC0.out]; simp [madeCells], fun j hj => absurd hj (Nat.not_lt_zero j)⟩ (by omega), by rw [hA]; exact hg1.out⟩
  have HB1 := hid hb1
  simp only [← hA] at HB1 ⊢
  clear hg1 hb1 hmk wn hA
  go_wp2_with fail
  go_loopw [8] (fun iv wr => ∃ k : Nat, 1 ≤ k ∧ k ≤ n ∧ iv = .int .i64 k ∧ Hid (∃ cur, Fill (.int .i64 x) n k cur ∧ wr.heap[A]? = some (.cells cur.toArray 3 (0, 0))) ∧ Hid (Below A w wr)) (fun iv _ => n - (intOf iv).toNat)
  case atStart => exact ⟨1, by omega, by omega, by rfl, HF, HB1⟩
  case round =>
    obtain ⟨k, hk1, hk2, rfl, HK, HBB⟩ := hrel
    clear HF HB1
    by_cases hlt : k < n
    · obtain ⟨cur, hcur⟩ := HK.out
      have HCU := hid hcur
      obtain ⟨d, hd⟩ : ∃ d, d = min k (n - k) := ⟨_, rfl⟩
      have hd1 : d ≤ k ∧ k + d ≤ n ∧ 1 ≤ d := by omega
      have HD := hid hd
      have HWD := hid ((HBB.out).drew)
      clear hcur hd
      go_wp2_with fail
      have hnk : n ≠ k := by omega
      refine wp_region_held_drew (S := (fun _ => True)) (by kernel_rfl) trivial (fun hHeld => ?_)
      refine wpAnyH_take (i := 0) (oi := { dst := some 38, op := Op.move (Operand.tmp 8), type := 3, pos := "slices.go:528", after := #[], guard := none }) (v := ?_) rfl (by kernel_rfl) (by kernel_rfl) (by kernel_rfl) (fun _ _ _ h => h) (Or.inl ⟨by rfl, ?_⟩) (by assumption) ?_
      rotate_left
      · intro w hSw; (try dsimp only at hSw); go_simp; try (with_reducible rfl)
      try simp only [Act.put, List.setIfInBounds_toArray, List.set_cons_zero, List.set_cons_succ]
      refine wpAnyH_take (i := 1) (oi := { dst := some 39, op := Op.move (Operand.tmp 7), type := 22, pos := "slices.go:528", after := #[], guard := none }) (v := ?_) rfl (by kernel_rfl) (by kernel_rfl) (by kernel_rfl) (fun _ _ _ h => h) (Or.inl ⟨by rfl, ?_⟩) (by assumption) ?_
      rotate_left
      · intro w hSw; (try dsimp only at hSw); go_simp; try (with_reducible rfl)
      try simp only [Act.put, List.setIfInBounds_toArray, List.set_cons_zero, List.set_cons_succ]
      refine wpAnyH_take (i := 2) (oi := { dst := some 40, op := Op.move (Operand.tmp 8), type := 3, pos := "slices.go:528", after := #[], guard := none }) (v := ?_) rfl (by kernel_rfl) (by kernel_rfl) (by kernel_rfl) (fun _ _ _ h => h) (Or.inl ⟨by rfl, ?_⟩) (by assumption) ?_
      rotate_left
      · intro w hSw; (try dsimp only at hSw); go_simp; try (with_reducible rfl)
      try simp only [Act.put, List.setIfInBounds_toArray, List.set_cons_zero, List.set_cons_succ]
      refine wpAnyH_take (i := 3) (oi := { dst := some 41, op := Op.slice 22 (Operand.tmp 39) (some (Operand.tmp 40)) none none, type := 22, pos := "slices.go:528", after := #[{ on := 1, ground := Ground.data }, { on := 2, ground := Ground.data }], guard := none }) (v := ?_) rfl (by kernel_rfl) (by kernel_rfl) (by kernel_rfl) (fun _ _ _ h => h) (Or.inl ⟨by rfl, ?_⟩) (by assumption) ?_
      rotate_left
      · intro w hSw; (try dsimp only at hSw); go_simp; try (with_reducible rfl)
      try simp only [Act.put, List.setIfInBounds_toArray, List.set_cons_zero, List.set_cons_succ]
      refine wpAnyH_take (i := 4) (oi := { dst := some 42, op := Op.move (Operand.tmp 7), type := 22, pos := "slices.go:528", after := #[], guard := none }) (v := ?_) rfl (by kernel_rfl) (by kernel_rfl) (by kernel_rfl) (fun _ _ _ h => h) (Or.inl ⟨by rfl, ?_⟩) (by assumption) ?_
      rotate_left
      · intro w hSw; (try dsimp only at hSw); go_simp; try (with_reducible rfl)
      try simp only [Act.put, List.setIfInBounds_toArray, List.set_cons_zero, List.set_cons_succ]
      refine wpAnyH_take (i := 5) (oi := { dst := some 43, op := Op.move (Operand.tmp 8), type := 3, pos := "slices.go:528", after := #[], guard := none }) (v := ?_) rfl (by kernel_rfl) (by kernel_rfl) (by kernel_rfl) (fun _ _ _ h => h) (Or.inl ⟨by rfl, ?_⟩) (by assumption) ?_
      rotate_left
      · intro w hSw; (try dsimp only at hSw); go_simp; try (with_reducible rfl)
      try simp only [Act.put, List.setIfInBounds_toArray, List.set_cons_zero, List.set_cons_succ]
      refine wpAnyH_take (i := 6) (oi := { dst := some 44, op := Op.slice 22 (Operand.tmp 42) none (some (Operand.tmp 43)) none, type := 22, pos := "slices.go:528", after := #[{ on := 4, ground := Ground.data }, { on := 5, ground := Ground.data }], guard := none }) (v := ?_) rfl (by kernel_rfl) (by kernel_rfl) (by kernel_rfl) (fun _ _ _ h => h) (Or.inl ⟨by rfl, ?_⟩) (by assumption) ?_
      rotate_left
      · intro w hSw; (try dsimp only at hSw); go_simp; try (with_reducible rfl)
      try simp only [Act.put, List.setIfInBounds_toArray, List.set_cons_zero, List.set_cons_succ]
      refine wpAnyH_ready (rs := [7]) (by kernel_rfl) (by simp) ?_
      refine AllReadyH.cons (o := { dst := some 45, op := Op.call { callee := Callee.builtin Builtin.copy, args := #[Operand.tmp 41, Operand.tmp 44], argTypes := #[22, 22] }, type := 3, pos := "slices.go:528", after := #[{ on := 3, ground := Ground.data }, { on := 6, ground := Ground.data }], guard := none }) rfl (fun K hK => ?_) AllReadyH.nil
      refine step_copy_splice rfl (.tmp 41) (.tmp 44) 22 22 rfl 3 Try.underlying22 size3 _ (some ⟨A, 0, none⟩) (n - k) (n - k) k n rfl rfl A k cur 3 HCU.out.2 (List.replicate d (.int .i64 x)) (by rw [List.length_replicate]; exact HD.out) (fun _ => ⟨by first | rfl | exact if_neg hnk | simp [hnk], _, rfl, src2 HCU.out hd1.1⟩) (by rw [List.length_replicate, HCU.out.1.1]; exact hd1.2.1) (fun v hv => by rw [List.eq_of_mem_replicate hv]; rfl) A w HWD.out (Nat.le_refl _) ?_
      intro w4 hg4 hb4
      refine hK.out _ _ trivial (fun hHeld2 => ?_)
      clear hK K
      have hr : (List.replicate d (Value.int .i64 x)).length = d := List.length_replicate
      rw [hr]
      try simp only [Act.put, List.setIfInBounds_toArray, List.set_cons_zero, List.set_cons_succ]
      refine wpAnyH_take (i := 8) (oi := { dst := some 46, op := Op.binOp BinOp.add 3 (Operand.tmp 38) (Operand.tmp 45) 3, type := 3, pos := "slices.go:528", after := #[{ on := 0, ground := Ground.data }, { on := 7, ground := Ground.data }], guard := none }) (v := ?_) rfl (by kernel_rfl) (by kernel_rfl) (by kernel_rfl) (fun _ _ _ h => h) (Or.inl ⟨by rfl, ?_⟩) (by assumption) ?_
      rotate_left
      · intro w hSw; (try dsimp only at hSw); go_simp; try (with_reducible rfl)
      try simp only [Act.put, List.setIfInBounds_toArray, List.set_cons_zero, List.set_cons_succ]
      refine wpAnyH_take (i := 9) (oi := { dst := some 8, op := Op.assign (Operand.tmp 46), type := 3, pos := "slices.go:528", after := #[{ on := 8, ground := Ground.data }, { on := 7, ground := Ground.chain }, { on := 0, ground := Ground.phase }, { on := 1, ground := Ground.phase }, { on := 2, ground := Ground.phase }, { on := 3, ground := Ground.phase }, { on := 4, ground := Ground.phase }, { on := 5, ground := Ground.phase }, { on := 6, ground := Ground.phase }, { on := 7, ground := Ground.phase }, { on := 8, ground := Ground.phase }], guard := none }) (v := ?_) rfl (by kernel_rfl) (by kernel_rfl) (by kernel_rfl) (fun _ _ _ h => h) (Or.inl ⟨by rfl, ?_⟩) (by assumption) ?_
      rotate_left
      · intro w hSw; (try dsimp only at hSw); go_simp; try (with_reducible rfl)
      try simp only [Act.put, List.setIfInBounds_toArray, List.set_cons_zero, List.set_cons_succ]
      refine wpAnyH_done (by kernel_rfl) ?_ _
      have HN : Hid (∃ cur, Fill (.int .i64 x) n (k + d) cur ∧ w4.heap[A]? = some (.cells cur.toArray 3 (0, 0))) := hid ⟨_, Fill.more HCU.out.1 hd1.2.1, hg4.out⟩
      have HB4 := hid hb4
      clear hg4 hb4 hr hHeld hHeld2
      go_wp2_with fail
      have hwk : IntKind.i64.wrap ((k : Int) + (d : Int)) = (k : Int) + (d : Int) := by rw [IntKind.wrap_i64]; omega
      go_roundw
      case rel => exact ⟨k + d, by omega, by omega, by simp only [hwk]; rfl, HN, HB4⟩
      case measure => simp only [intOf, hwk]; omega
    · obtain rfl : k = n := by omega
      go_wp2_with fail
      go_ret
      obtain ⟨cur, hf, hh⟩ := HK.out
      have hcw := hf.whole
      refine ⟨A, rfl, ⟨by rw [vals_length]; omega, .inr ⟨A, k, cur.toArray, rfl, by rw [← HA.out]; exact Nat.le_refl _, hh, Nat.le_refl _, by unfold maxLen; omega, by simp [hf.1], ?_⟩⟩, by rw [← HA.out]; exact HBB.out⟩
      rw [hcw]
      exact List.take_of_length_le (by rw [vals_length]; omega)
end Go.Proofs.Ytaepiegbpgkciaa
