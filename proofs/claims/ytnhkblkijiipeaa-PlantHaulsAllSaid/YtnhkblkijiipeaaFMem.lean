/-
  Lists of numbers in memory of the call's own: made, copied, appended; the walks of made and copyOf.
-/
import Derived.Test.YtnhkblkijiipeaaFLst
import Derived.Laws.CopyOwn
import Derived.Laws.OwnMore
import Derived.Deep.OwnRows
namespace Go.Proofs.Ytnhkblkijiipeaa
open Go.RowKit

theorem row_slice {w : World} {B : Nat} {e : TypeId} {size n : Nat} {v : Value} {xs : List Value} (h : w.ownsRow B e size v n xs) : ∃ ao cap, v = .slice ao n cap := by
  rcases h.2 with ⟨rfl, rfl⟩ | ⟨g, cap, _, rfl, _⟩
  · exact ⟨none, 0, rfl⟩
  · exact ⟨_, _, rfl⟩
/-- A list of numbers in memory of the call's own. -/
abbrev RowI (w : World) (B : Nat) (v : Value) (k : Nat) (Z : Nat → Int) : Prop := w.ownsRow B 3 1 v k (vals k (iv Z))
theorem RowI.ints {w : World} {B n c : Nat} {ao : Option Addr} {Z : Nat → Int} (h : RowI w B (.slice ao n c) n Z) : Ints w ao n Z := fun j hj => by
  obtain ⟨g, cap, e, _, hl⟩ := h.form (by omega)
  cases e
  exact ⟨g, 0, rfl, hl, by rw [Nat.zero_add, h.cellAt j (by omega), vals_get _ hj]⟩
theorem RowI.congr {w : World} {B n : Nat} {v : Value} {Z Y : Nat → Int} (h : RowI w B v n Z) (e : ∀ j, j < n → Z j = Y j) : RowI w B v n Y := by
  have : vals n (iv Z) = vals n (iv Y) := vals_congr fun i hi => by simp only [iv]; rw [e i hi]
  show w.ownsRow B 3 1 v n (vals n (iv Y))
  rw [← this]; exact h
theorem RowI.at {w : World} {B g n c : Nat} {Z : Nat → Int} (h : RowI w B (.slice (some ⟨g, 0, none⟩) n c) n Z) {j : Nat} (hj : j < n) : w.cell? ⟨g, j, none⟩ = some (.int .i64 (Z j)) :=
  (h.cellAt j (by omega)).trans (vals_get _ hj)
theorem RowI.put {w : World} {B g n c : Nat} {Z : Nat → Int} (h : RowI w B (.slice (some ⟨g, 0, none⟩) n c) n Z) (j : Nat) (x : Int) : RowI (w.setCell ⟨g, j, none⟩ (.int .i64 x)) B (.slice (some ⟨g, 0, none⟩) n c) n (fun i => if i = j then x else Z i) := by
  have := (h.stored j (.int .i64 x)).1
  rw [vals_set] at this
  have e : vals n (fun i => if i = j then Value.int .i64 x else iv Z i) = vals n (iv fun i => if i = j then x else Z i) := vals_congr fun i hi => by
    simp only [iv]; by_cases h : i = j <;> simp [h]
  show World.ownsRow _ B 3 1 _ n (vals n _)
  rw [← e]; exact this
theorem run_mkI (n : Nat) (hn : n ≤ 1000000) (w : World) : (Instr.makeSlice 23 (.int .i64 (n : Int)) (.int .i64 (n : Int))).run Try.prog w = .ok (.slice (some ⟨w.heap.size, 0, none⟩) n n) (w.alloc (.cells (madeCells #[.int .i64 0] n) 3)) :=
  run_make_row' 23 3 (.int .i64 0) 8 Try.underlying23 info3 rfl .i64 .i64 n (by omega) (by omega) w
theorem made_one (z : Value) (n : Nat) : (madeCells #[z] n).toList = vals n (fun _ => z) := by
  rw [toList_madeCells_one]
  apply List.ext_getElem?
  intro i
  by_cases hi : i < n
  · rw [vals_get _ hi, List.getElem?_replicate, if_pos hi]
  · rw [List.getElem?_eq_none (by simp; omega), List.getElem?_eq_none (by rw [vals_length]; omega)]
theorem row_made (w : World) (B : Nat) (z : Value) (e : TypeId) (n : Nat) (hB : B ≤ w.heap.size) (hn : n ≤ 1000000) : (w.alloc (.cells (madeCells #[z] n) e)).ownsRow B e 1 (.slice (some ⟨w.heap.size, 0, none⟩) n n) n (vals n (fun _ => z)) := by
  refine ⟨by simp [vals_length], .inr ⟨w.heap.size, n, _, rfl, hB, heap_new _ _, Nat.le_refl _, by unfold maxLen; omega, by simp [size_madeCells], ?_⟩⟩
  rw [made_one]; exact List.take_of_length_le (by rw [vals_length]; omega)
/-- append of any slice of numbers onto a list of the call's own. -/
theorem run_append_zero (v : Value) (k B : Nat) (xs : List Value) (ao : Option Addr) (c : Nat) (w : World) (h : w.ownsRow B 3 1 v k xs) :
    (Builtin.append_ #[23, 23] 23 #[v, .slice ao 0 c]).run Try.prog w = .ok v w := by
  obtain ⟨i0, hi0, hi1, hi2, hi3⟩ := info_parts info3
  rcases h.2 with ⟨rfl, _⟩ | ⟨g, cap, cur, rfl, _, _, hc, _⟩
  · cases ao <;> simp [Builtin.append_, run_underlying Try.underlying23, sizeOf, typeInfo, zeroValue, hi0, hi1, Builtin.lenOf, go_sem]
  · cases ao <;> simp [Builtin.append_, run_underlying Try.underlying23, sizeOf, typeInfo, zeroValue, hi0, hi1, Builtin.lenOf, go_sem, hc, Builtin.firstCells, storeCells]
theorem wpList_append_ints {ops : Array Oper} {rest : List Oper} {o : Oper} {a : Act} {Q : Exit → Act → World → Prop} (w : World) (hgd : o.guard = none) (s x : Operand)
    (ho : o.op = .call { callee := .builtin .append, args := #[s, x], argTypes := #[23, 23] }) (hty : o.type = 23) (B : Nat) (v : Value) (k : Nat) (Z : Nat → Int) (hs : a.eval s = v) (hrow : RowI w B v k Z)
    (ao : Option Addr) (n c : Nat) (Y : Nat → Int) (hx : a.eval x = .slice ao n c) (hI : Ints w ao n Y) (hk : k + n ≤ 1000000) (hB : B ≤ w.heap.size)
    (h : ∀ v' w', RowI w' B v' (k + n) (fun j => if j < k then Z j else Y (j - k)) → Below B w w' → wpList Try.prog ops Q rest (a.put o.dst v') w') : wpList Try.prog ops Q (o :: rest) a w := by
  obtain ⟨i0, hi0, hi1, hi2, hi3⟩ := info_parts info3
  by_cases h0 : n = 0
  · subst h0
    refine wpList_plain hgd fun _ hK => ?_
    unfold Oper.wp execOp
    simp only [ho, hty, resolve, invoke, builtin, Sem.run_bind, Sem.run_pure, Result.andThen_ok, List.map_toArray, List.map_cons, List.map_nil, hs, hx, run_append_zero v k B _ ao c w hrow]
    refine hK _ _ (h v w ?_ (Below.refl _ _))
    show w.ownsRow B 3 1 v (k + 0) (vals (k + 0) _)
    rw [Nat.add_zero, vals_congr (G := iv Z) (fun i hi => by simp [hi])]
    exact hrow
  · obtain ⟨b, off, rfl, hz, hc⟩ := hI.one (by omega)
    refine wpList_append_own w hgd s x 23 ho B 3 i0 (.int .i64 0) 1 8 Try.underlying23 hi0 hi1 hi2 hi3 rfl (by decide) v k (vals k (iv Z)) hs hrow ⟨b, off, none⟩ n c (vals n (iv Y)) hx (by simp [vals_length]) ?_ ?_ (by unfold maxLen; omega) (by omega) hB ?_
    · intro j u hj
      have hjn : j < n := by have := (List.getElem?_eq_some_iff.1 hj).1; rwa [vals_length] at this
      rw [vals_get _ hjn] at hj
      rw [Addr.add_lit, hc j hjn]; exact hj
    · intro u hu
      obtain ⟨y, _, rfl⟩ := List.mem_map.1 hu
      rfl
    · intro v' w' hown hg _
      refine h v' w' ?_ ((Below.refl B w).grown hg hB (fun i hi => (hrow.lt i hi).1))
      show w'.ownsRow B 3 1 v' (k + n) (vals (k + n) _)
      have : vals (k + n) (iv fun j => if j < k then Z j else Y (j - k)) = vals k (iv Z) ++ vals n (iv Y) := by
        apply List.ext_getElem?
        intro j
        by_cases h1 : j < k
        · rw [vals_get _ (by omega), List.getElem?_append_left (by rw [vals_length]; exact h1), vals_get _ h1]; simp [h1]
        · rw [List.getElem?_append_right (by rw [vals_length]; omega), vals_length]
          by_cases h2 : j < k + n
          · rw [vals_get _ h2, vals_get _ (by omega)]; simp [h1]
          · rw [List.getElem?_eq_none (by rw [vals_length]; omega), List.getElem?_eq_none (by rw [vals_length]; omega)]
      rw [this]
      exact hown
/-- What made leaves. -/
def RowPost (n : Nat) (Z : Nat → Int) (w : World) (e : Ending) (w' : World) : Prop := ∃ v, e = .returned v ∧ RowI w' w.heap.size v n Z ∧ Below w.heap.size w w'
def lenS : Value → Nat
  | .slice _ n _ => n
  | _ => 0
theorem mat {w : World} {ao : Option Addr} {n : Nat} {C A : Nat → Int} (h : Mks w ao n C A) {j : Nat} (hj : j < n) : ∃ b off : Nat, ao = some ⟨b, off, none⟩ ∧ b < w.heap.size ∧ w.cell? ⟨b, off + j * 2, none⟩ = some (.int .i64 (C j)) ∧ w.cell? ⟨b, off + j * 2 + 1, none⟩ = some (.int .i64 (A j)) := h j hj
set_option maxRecDepth 100000 in
set_option maxHeartbeats 6400000 in
theorem made_any (s : ByteArray) (t : Value) (hts : ∃ a n c, t = .slice a n c) (ao : Option Addr) (n c : Nat) (C A : Nat → Int) (hn : n ≤ 1000) (w : World) (h : Mks w ao n C A) :
    Calls Try.prog 48 #[.agg #[.string s, t, .slice ao n c]] w (RowPost n C w) := by
  obtain ⟨ta, tn, tc, rfl⟩ := hts
  obtain ⟨B, hB⟩ : ∃ B, w.heap.size = B := ⟨_, rfl⟩
  have HBW := hid hB
  unfold RowPost
  rw [hB]
  have hb1 : Below w.heap.size w (w.alloc (.cells #[.string s, .slice ta tn tc, .slice ao n c] 40)) := (Below.refl _ _).alloc (Nat.le_refl _) _
  have HB1 := hid hb1
  have HM : Hid (∀ W, Below B w W → Mks W ao n C A) := hid (fun W hW => h.stays (by rw [hB]; exact hW))
  have HZ : Hid (B ≤ (w.alloc (.cells #[.string s, .slice ta tn tc, .slice ao n c] 40)).heap.size) := hid (by rw [← hB]; exact hb1.size)
  rw [hB] at HB1
  clear h hB hb1
  go_enter Try.func48, Try.ntmps48
  go_upto_region 3 with fail
  generalize w.alloc _ = w1 at HB1 HZ ⊢
  go_wp2_with fail
  go_loopw [3, 9] (fun lv iv wr => ∃ i : Nat, i ≤ n ∧ iv = .int .i64 i ∧ Hid (RowI wr B lv i C ∧ Below B w wr)) (fun _ iv _ => n - (intOf iv).toNat)
  case atStart => exact ⟨0, Nat.zero_le _, rfl, hid ⟨World.ownsRow_nil _ _ _ _, HB1.out⟩⟩
  case round =>
    obtain ⟨i, hi, rfl, HS⟩ := hrel
    obtain ⟨so, sc, rfl⟩ := row_slice HS.out.1
    by_cases hlt : i < n
    · obtain ⟨b, off, e, _, a0, a1⟩ := mat (HM.out wr HS.out.2) hlt
      subst e
      obtain ⟨x, hx⟩ : ∃ x, C i = x := ⟨_, rfl⟩
      obtain ⟨y, hy⟩ : ∃ y, A i = y := ⟨_, rfl⟩
      rw [hx] at a0
      rw [hy] at a1
      have HX := hid hx
      have hBs : B ≤ wr.heap.size := by rw [← HBW.out]; exact HS.out.2.size
      have hba : Below wr.heap.size wr (wr.alloc (.cells #[.int .i64 x, .int .i64 y] 42)) := (Below.refl _ _).alloc (Nat.le_refl _) _
      have hbb : Below wr.heap.size wr ((wr.alloc (.cells #[.int .i64 x, .int .i64 y] 42)).alloc (.cells #[.int .i64 x] 3)) := hba.alloc (by rw [World.size_alloc]; omega) _
      have HA : Hid (RowI ((wr.alloc (.cells #[.int .i64 x, .int .i64 y] 42)).alloc (.cells #[.int .i64 x] 3)) B (.slice so i sc) i C ∧ Below B w ((wr.alloc (.cells #[.int .i64 x, .int .i64 y] 42)).alloc (.cells #[.int .i64 x] 3))) := hid ⟨row_stays HS.out.1 hbb, HS.out.2.trans (hbb.mono hBs)⟩
      have HI : Hid (Ints ((wr.alloc (.cells #[.int .i64 x, .int .i64 y] 42)).alloc (.cells #[.int .i64 x] 3)) (some ⟨wr.heap.size + 1, 0, none⟩) 1 (fun _ => x)) := hid (fun j hj => ⟨wr.heap.size + 1, 0, rfl, by simp, by
        obtain rfl : j = 0 := by omega
        have := heap_new (wr.alloc (.cells #[.int .i64 x, .int .i64 y] 42)) (.cells #[.int .i64 x] 3)
        rw [World.size_alloc] at this
        rw [cell_of_row _ _ _ _ _ _ this]; rfl⟩)
      have HB2 : Hid (B ≤ ((wr.alloc (.cells #[.int .i64 x, .int .i64 y] 42)).alloc (.cells #[.int .i64 x] 3)).heap.size) := hid (by rw [World.size_alloc, World.size_alloc]; omega)
      clear hba hbb hx hy hBs
      go_wp2_with (at_builtin; refine wpList_append_ints _ rfl _ _ rfl rfl B _ i C rfl HA.out.1 _ 1 1 _ rfl HI.out (by omega) HB2.out ?_; intro v3 w3 hr3 hb3)
      have HN : Hid (RowI w3 B v3 (i + 1) C ∧ Below B w w3) := hid ⟨hr3.congr (fun j hj => by
        by_cases h : j < i
        · rw [if_pos h]
        · obtain rfl : j = i := by omega
          rw [if_neg h]; exact HX.out.symm), HA.out.2.trans hb3⟩
      obtain ⟨so3, sc3, rfl⟩ := row_slice hr3
      clear hr3 hb3 HA HI HS
      go_roundw
      case rel => exact ⟨i + 1, by omega, by go_num, HN⟩
      case measure => simp [intOf]; omega
    · obtain rfl : n = i := by omega
      go_wp2_with fail
      go_ret
      exact ⟨_, rfl, HS.out.1, HS.out.2⟩
theorem sizeI : (Try.prog.info? 3).map (·.size) = some 1 := by kernel_rfl
set_option maxRecDepth 100000 in
set_option maxHeartbeats 3200000 in
theorem copyof_any (ao : Option Addr) (n c : Nat) (Z : Nat → Int) (hn : n ≤ 1000) (w : World) (h : Ints w ao n Z) :
    Calls Try.prog 62 #[.slice ao n c] w fun e w' => ∃ g, e = .returned (.slice (some ⟨g, 0, none⟩) n n) ∧ RowI w' w.heap.size (.slice (some ⟨g, 0, none⟩) n n) n Z ∧ Below w.heap.size w w' := by
  have hmk := run_mkI n (by omega)
  have hrow := row_made w w.heap.size (.int .i64 0) 3 n (Nat.le_refl _) (by omega)
  have hb0 : Below w.heap.size w (w.alloc (.cells (madeCells #[.int .i64 0] n) 3)) := (Below.refl _ _).alloc (Nat.le_refl _) _
  have hh : (w.alloc (.cells (madeCells #[.int .i64 0] n) 3)).heap[w.heap.size]? = some (.cells (vals n (fun _ => .int .i64 0)).toArray 3 (0, 0)) := by
    rw [heap_new, ← made_one, Array.toArray_toList]
  have HI := hid (h.stays hb0)
  have HH := hid hh
  have HB := hid hb0
  have HMIN : Hid ((vals n (iv Z)).length = Nat.min n n) := hid (by rw [vals_length]; exact (Nat.min_self n).symm)
  obtain ⟨cs, hcs⟩ : ∃ cs, vals n (iv Z) = cs := ⟨_, rfl⟩
  obtain ⟨zs, hzs⟩ : ∃ zs, vals n (fun _ => Value.int .i64 0) = zs := ⟨_, rfl⟩
  have HCS := hid hcs
  have HZS := hid hzs
  rw [hcs] at HMIN
  rw [hzs] at HH
  clear h hrow hb0 hh hcs hzs
  go_enter Try.func62, Try.ntmps62
  go_upto_region 2 with fail
  generalize w.alloc _ = w1 at HI HH HB ⊢
  clear hmk
  go_wp2_with ((with_reducible show wpList _ _ _ (Oper.mk (some 9) _ _ _ _ _ :: _) _ _); refine wpList_copy_splice rfl (.tmp 7) (.tmp 8) 23 23 rfl 3 Try.underlying23 sizeI (some ⟨w.heap.size, 0, none⟩) ao n n n c rfl rfl w.heap.size 0 zs 3 HH.out cs HMIN.out ?hpos ?hfit ?h1 w.heap.size w HB.out (Nat.le_refl _) ?_)
  case hpos =>
    intro h0
    rw [← HCS.out, vals_length] at h0
    obtain ⟨b, off, e, _, hc⟩ := HI.out.one h0
    have key : ∃ ad : Addr, ao = some ad ∧ ∀ j v, cs[j]? = some v → w1.cell? (ad.add j) = some v := ⟨_, e, fun j v hj => by
      rw [← HCS.out] at hj
      have hjn : j < n := by have := (List.getElem?_eq_some_iff.1 hj).1; rwa [vals_length] at this
      rw [vals_get _ hjn] at hj
      rw [Addr.add_lit, hc j hjn]; exact hj⟩
    first
      | exact key
      | exact ⟨rfl, key⟩
  case hfit => rw [← HCS.out, ← HZS.out, vals_length, vals_length]; omega
  case h1 =>
    intro v hv
    rw [← HCS.out] at hv
    obtain ⟨y, _, rfl⟩ := List.mem_map.1 hv
    rfl
  intro w2 hg2 hb2
  go_wp2_with fail
  go_ret
  refine ⟨w.heap.size, rfl, ?_, hb2⟩
  have hg := hg2.out
  have hsp : splice zs 0 cs = cs := by
    unfold splice
    rw [← HCS.out, ← HZS.out, vals_length, List.take_zero, List.nil_append, List.drop_eq_nil_of_le (by rw [vals_length]; omega), List.append_nil]
  rw [hsp, ← HCS.out] at hg
  exact ⟨by simp [vals_length], .inr ⟨w.heap.size, n, _, rfl, Nat.le_refl _, hg, Nat.le_refl _, by unfold maxLen; omega, by simp [vals_length], List.take_of_length_le (by simp [vals_length])⟩⟩
end Go.Proofs.Ytnhkblkijiipeaa
