/-
  The walks of Grow and Concat of lists of numbers, and of Clone of edges.
-/
import Derived.Test.YtokpdjdpeaccbaaGWays
namespace Go.Proofs.Ytokpdjdpeaccbaa
open Go.RowKit

theorem run_append_make (n : Nat) (h0 : 0 < n) (hn : n ≤ 1000000) (ty : TypeId) (w : World) :
    (Builtin.append_ #[28, 3] ty #[.slice none 0 0, .int .i64 (n : Int)]).run Try.prog w =
      .ok (.slice (some ⟨w.heap.size, 0, none⟩) n (grownCap w n 0 3)) (w.drew.alloc (.cells (Builtin.zeroCells #[.int .i64 0] n ++ Builtin.zeroCells #[.int .i64 0] (grownCap w n 0 3 - n)) 3)) := by
  obtain ⟨i0, hi0, hi1, hi2, hi3⟩ := info_parts info3
  have w1 : IntKind.i64.wrap (n : Int) = n := by rw [IntKind.wrap_i64]; omega
  have h1 : ¬ ((n : Int) < 0) := by omega
  have h2 : ¬ ((281474976710656 : Int) < (n : Int) * 8) := by omega
  have hne : ¬ n = 0 := by omega
  have h63' : ¬ (9223372036854775807 < (n : Int)) := by omega
  have h48' : ¬ (281474976710656 < Builtin.nextslicecap n 0 * 8) := by rw [nextslicecap_zero h0]; omega
  simp [Builtin.append_, run_underlying Try.underlying28, run_underlying Try.underlying3, sizeOf, typeInfo, zeroValue, hi0, hi1, hi2, hi3, w1, h1, h2, hne, h63', h48', Question.forced, newRow, grownCap, asInt, asIntOf, Builtin.firstCells, go_sem]
/-- A list of numbers in memory of the call's own. -/
abbrev RowI (w : World) (B : Nat) (v : Value) (k : Nat) (Z : Nat → Int) : Prop := w.ownsRow B 3 1 v k (vals k (iv Z))
theorem wpList_append_make {ops : Array Oper} {rest : List Oper} {o : Oper} {a : Act} {Q : Exit → Act → World → Prop} (w : World) (hgd : o.guard = none) (s x : Operand)
    (ho : o.op = .call { callee := .builtin .append, args := #[s, x], argTypes := #[28, 3] }) (hty : o.type = 28) (n : Nat) (h0 : 0 < n) (hn : n ≤ 1000000) (hs : a.eval s = .slice none 0 0) (hx : a.eval x = .int .i64 (n : Int))
    (h : ∀ cp w', n ≤ cp → w'.ownsRow w.heap.size 3 1 (.slice (some ⟨w.heap.size, 0, none⟩) 0 cp) 0 [] → Below w.heap.size w w' → wpList Try.prog ops Q rest (a.put o.dst (.slice (some ⟨w.heap.size, 0, none⟩) n cp)) w') : wpList Try.prog ops Q (o :: rest) a w := by
  refine wpList_plain hgd fun _ hK => ?_
  unfold Oper.wp execOp
  simp only [ho, hty, resolve, invoke, builtin, Sem.run_bind, Sem.run_pure, Result.andThen_ok, List.map_toArray, List.map_cons, List.map_nil, hs, hx, run_append_make n h0 hn]
  exact hK _ _ (h _ _ (grownCap_ge w n 0 3) (World.ownsRow_made w.drew _ _ (Nat.le_refl _) (grownCap_le_maxLen w n 0 3 (by unfold maxLen; omega)) (by have := grownCap_ge w n 0 3; simp [size_zeroCells]; omega)) (((Below.refl w.heap.size w).drew).alloc (Nat.le_refl _) _))
def Grown (w : World) (e : Ending) (w' : World) : Prop := ∃ v, e = .returned v ∧ w'.ownsRow w.heap.size 3 1 v 0 [] ∧ Below w.heap.size w w'
set_option maxRecDepth 100000 in
set_option maxHeartbeats 1600000 in
theorem grow_any (n : Nat) (hn : n ≤ 1000000) (w : World) : Calls Try.prog 65 #[.slice none 0 0, .int .i64 (n : Int)] w (Grown w) := by
  by_cases h0 : n = 0
  · subst h0
    go_enter Try.func65, Try.ntmps65
    go_wp2
    go_ret
    exact ⟨_, rfl, World.ownsRow_nil _ _ _ _, Below.refl _ _⟩
  · have hpos : (0 : Int) < (n : Int) := by omega
    have hp0 : 0 < n := by omega
    go_enter Try.func65, Try.ntmps65
    go_wp2_with (at_builtin; refine wpList_append_make _ rfl _ _ rfl rfl n hp0 hn rfl rfl ?_; intro cp w' hcp hrow hbel)
    go_ret
    exact ⟨_, rfl, hrow, hbel⟩
/-- append of any slice of numbers onto a list of the call's own. -/
theorem run_append_zero (v : Value) (k B : Nat) (xs : List Value) (ao : Option Addr) (c : Nat) (w : World) (h : w.ownsRow B 3 1 v k xs) :
    (Builtin.append_ #[28, 28] 28 #[v, .slice ao 0 c]).run Try.prog w = .ok v w := by
  obtain ⟨i0, hi0, hi1, hi2, hi3⟩ := info_parts info3
  rcases h.2 with ⟨rfl, _⟩ | ⟨g, cap, cur, rfl, _, _, hc, _⟩
  · cases ao <;> simp [Builtin.append_, run_underlying Try.underlying28, sizeOf, typeInfo, zeroValue, hi0, hi1, Builtin.lenOf, go_sem]
  · cases ao <;> simp [Builtin.append_, run_underlying Try.underlying28, sizeOf, typeInfo, zeroValue, hi0, hi1, Builtin.lenOf, go_sem, hc, Builtin.firstCells, storeCells]
theorem wpList_append_ints {ops : Array Oper} {rest : List Oper} {o : Oper} {a : Act} {Q : Exit → Act → World → Prop} (w : World) (hgd : o.guard = none) (s x : Operand)
    (ho : o.op = .call { callee := .builtin .append, args := #[s, x], argTypes := #[28, 28] }) (hty : o.type = 28) (B : Nat) (v : Value) (k : Nat) (Z : Nat → Int) (hs : a.eval s = v) (hrow : RowI w B v k Z)
    (ao : Option Addr) (n c : Nat) (Y : Nat → Int) (hx : a.eval x = .slice ao n c) (hI : Ints w ao n Y) (hk : k + n ≤ 1000000) (hB : B ≤ w.heap.size)
    (h : ∀ v' w', RowI w' B v' (k + n) (fun j => if j < k then Z j else Y (j - k)) → Below B w w' → wpList Try.prog ops Q rest (a.put o.dst v') w') : wpList Try.prog ops Q (o :: rest) a w := by
  obtain ⟨i0, hi0, hi1, hi2, hi3⟩ := info_parts info3
  by_cases h0 : n = 0
  · subst h0
    refine wpList_plain hgd fun _ hK => ?_
    unfold Oper.wp execOp
    simp only [ho, hty, resolve, invoke, builtin, Sem.run_bind, Sem.run_pure, Result.andThen_ok, List.map_toArray, List.map_cons, List.map_nil, hs, hx, run_append_zero v k B _ ao c w hrow]
    refine hK _ _ (h v w ?_ (Below.refl _ _))
    show w.ownsRow B 3 1 v (k + 0) (vals (k + 0) _)
    rw [Nat.add_zero, vals_congr (G := iv Z) (fun i hi => by simp [hi])]
    exact hrow
  · obtain ⟨b, off, rfl, hz, hc⟩ := hI.one (by omega)
    refine wpList_append_own w hgd s x 28 ho B 3 i0 (.int .i64 0) 1 8 Try.underlying28 hi0 hi1 hi2 hi3 rfl (by decide) v k (vals k (iv Z)) hs hrow ⟨b, off, none⟩ n c (vals n (iv Y)) hx (by simp [vals_length]) ?_ ?_ (by unfold maxLen; omega) (by omega) hB ?_
    · intro j u hj
      have hjn : j < n := by have := (List.getElem?_eq_some_iff.1 hj).1; rwa [vals_length] at this
      rw [vals_get _ hjn] at hj
      rw [Addr.add_lit, hc j hjn]; exact hj
    · intro u hu
      obtain ⟨y, _, rfl⟩ := List.mem_map.1 hu
      rfl
    · intro v' w' hown hg _
      refine h v' w' ?_ ((Below.refl B w).grown hg hB (fun i hi => (hrow.lt i hi).1))
      show w'.ownsRow B 3 1 v' (k + n) (vals (k + n) _)
      have : vals (k + n) (iv fun j => if j < k then Z j else Y (j - k)) = vals k (iv Z) ++ vals n (iv Y) := by
        apply List.ext_getElem?
        intro j
        by_cases h1 : j < k
        · rw [vals_get _ (by omega), List.getElem?_append_left (by rw [vals_length]; exact h1), vals_get _ h1]; simp [h1]
        · rw [List.getElem?_append_right (by rw [vals_length]; omega), vals_length]
          by_cases h2 : j < k + n
          · rw [vals_get _ h2, vals_get _ (by omega)]; simp [h1]
          · rw [List.getElem?_eq_none (by rw [vals_length]; omega), List.getElem?_eq_none (by rw [vals_length]; omega)]
      rw [this]
      exact hown
/-- What Concat leaves of two lists. -/
def Catted (q1 q2 : Nat) (X Y : Nat → Int) (w : World) (e : Ending) (w' : World) : Prop := ∃ v, e = .returned v ∧ RowI w' w.heap.size v (q1 + q2) (fun j => if j < q1 then X j else Y (j - q1)) ∧ Below w.heap.size w w'
set_option maxRecDepth 100000 in
set_option maxHeartbeats 3200000 in
theorem concat_any (T q1 c1 q2 c2 : Nat) (xo yo : Option Addr) (X Y : Nat → Int) (h1 : q1 ≤ 100000) (h2 : q2 ≤ 100000) (w : World) (hT : w.heap[T]? = some (.cells #[.slice xo q1 c1, .slice yo q2 c2] 28 (0, 0))) (hX : Ints w xo q1 X) (hY : Ints w yo q2 Y) :
    Calls Try.prog 42 #[.slice (some ⟨T, 0, none⟩) 2 2] w (Catted q1 q2 X Y w) := by
  have c0 := cell_of_row w T 0 _ _ _ hT
  have c1' := cell_of_row w T 1 _ _ _ hT
  simp only [List.getElem?_toArray, List.getElem?_cons_zero, List.getElem?_cons_succ] at c0 c1'
  have HT := hid hT
  have HX := hid hX
  have HY := hid hY
  have hw1 : IntKind.i64.wrap ((q1 : Int) + (q2 : Int)) = (q1 : Int) + (q2 : Int) := by rw [IntKind.wrap_i64]; omega
  have hw2 : (0 : Int) ≤ (q1 : Int) + (q2 : Int) := by omega
  obtain ⟨B, hB⟩ : ∃ B, w.heap.size = B := ⟨_, rfl⟩
  have HBW := hid hB
  have hq : q1 + q2 ≤ 1000000 := by omega
  clear hT hX hY hB
  go_enter Try.func42, Try.ntmps42
  go_wp2_with fail
  refine wp_loop_rounds 3 ?_
  rw [rounds_succ]
  go_wp2_with fail
  rw [rounds_succ]
  go_wp2_with fail
  rw [rounds_succ]
  go_wp2_with fail
  have hg := grow_any (q1 + q2) hq w
  rw [show ((q1 + q2 : Nat) : Int) = (q1 : Int) + (q2 : Int) by push_cast; rfl] at hg
  refine hg.mono ?_
  rintro r w2 ⟨v, rfl, hrow, hbel⟩
  rw [HBW.out] at hrow hbel
  have HR : Hid (RowI w2 B v 0 X ∧ Below B w w2) := hid ⟨hrow, hbel⟩
  have HX2 := hid (HX.out.stays (by rw [HBW.out]; exact hbel))
  have d0 := (hbel.cell (p := ⟨T, 0, none⟩) (by have := heap_lt HT.out; have := HBW.out; show T < B; omega)).trans c0
  clear hg hrow hbel c0
  have hB2 : B ≤ w2.heap.size := by have := HR.out.2.size; have := HBW.out; omega
  have hB' := HBW.out
  go_wp2_with fail
  refine wp_loop_rounds 3 ?_
  rw [rounds_succ]
  go_wp2_with (at_builtin; refine wpList_append_ints _ rfl _ _ rfl rfl B _ 0 X rfl HR.out.1 xo q1 c1 X rfl HX2.out (by omega) hB2 ?_; intro v3 w3 hr3 hb3)
  have HR3 : Hid (RowI w3 B v3 q1 X ∧ Below B w w3) := hid ⟨by
    have h := hr3
    rw [Nat.zero_add] at h
    have hc : vals q1 (iv fun j => if j < 0 then X j else X (j - 0)) = vals q1 (iv X) := vals_congr (fun i _ => by simp)
    show w3.ownsRow B 3 1 v3 q1 (vals q1 (iv X))
    rw [← hc]
    exact h, HR.out.2.trans hb3⟩
  have HY3 := hid (HY.out.stays (by rw [HBW.out]; exact HR3.out.2))
  have d1 := (HR3.out.2.cell (p := ⟨T, 1, none⟩) (by have := heap_lt HT.out; have := HBW.out; show T < B; omega)).trans c1'
  have hB3 : B ≤ w3.heap.size := by have := HR3.out.2.size; have := HBW.out; omega
  clear hr3 hb3 d0 c1'
  rw [rounds_succ]
  go_wp2_with (at_builtin; refine wpList_append_ints _ rfl _ _ rfl rfl B _ q1 X rfl HR3.out.1 yo q2 c2 Y rfl HY3.out (by omega) hB3 ?_; intro v4 w4 hr4 hb4)
  rw [rounds_succ]
  go_wp2_with fail
  go_ret
  refine ⟨_, rfl, ?_, ?_⟩
  · rw [hB']; exact hr4
  · rw [hB']; exact HR3.out.2.trans hb4
end Go.Proofs.Ytokpdjdpeaccbaa
