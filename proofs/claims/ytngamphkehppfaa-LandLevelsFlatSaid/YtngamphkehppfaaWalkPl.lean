/-
  The walks of small callees: which tiles there are, where their corners stand, what a shift costs, a copy of a list.
-/
import Derived.Test.YtngamphkehppfaaWalkFol
import Derived.Lib.SliceRun
namespace Go.Proofs.Ytngamphkehppfaa
open Go.RowKit

/-- Is there such a tile? -/
def tileB (W H : Nat) (t : Int) : Bool := decide (0 ≤ t) && decide (t < ((W * H : Nat) : Int))
/-- The north-west corner of a tile. -/
def nw (W t : Nat) : Nat := t / W * (W + 1) + t % W

theorem mulInt (W H : Nat) : (W : Int) * (H : Int) = ((W * H : Nat) : Int) := by simp
theorem mul_small {W H : Nat} (hW : W ≤ 32) (hH : H ≤ 32) : W * H ≤ 1024 := Nat.mul_le_mul hW hH
theorem is_below {w : World} (W H s : Value) : Below w.heap.size w (w.alloc (.cells #[W, H, s] 24)) := Joins.below_alloc1 _ _

set_option maxHeartbeats 800000 in
theorem isTile_any (W H : Nat) (hW : W ≤ 32) (hH : H ≤ 32) (s : Value) (t : Int) (w : World) : Calls Try.prog 67 #[lv W H s, .int .i64 t] w fun r w' => r = .returned (.bool (tileB W H t)) ∧ w.alloc (.cells #[.int .i64 W, .int .i64 H, s] 24) = w' := by
  obtain ⟨m, hm⟩ : ∃ m, m = W * H := ⟨_, rfl⟩
  have e1 : (W : Int) * (H : Int) = (m : Int) := by rw [hm]; simp
  have hm2 : m ≤ 1024 := by rw [hm]; exact mul_small hW hH
  unfold tileB
  rw [← hm]
  clear hm
  by_cases h : 0 ≤ t
  · go_enter Try.func67, Try.ntmps67
    go_wp2
    go_ret
    exact ⟨ret_bool (by simp [h]), rfl⟩
  · go_enter Try.func67, Try.ntmps67
    go_wp2
    go_ret
    exact ⟨ret_bool (by simp; omega), rfl⟩
set_option maxHeartbeats 800000 in
theorem is_any (W H : Nat) (hW : W ≤ 32) (hH : H ≤ 32) (s : Value) (t : Int) (w : World) : Calls Try.prog 31 #[lv W H s, .int .i64 t] w fun r w' => r = .returned (.bool (tileB W H t)) ∧ w.alloc (.cells #[.int .i64 W, .int .i64 H, s] 24) = w' := by
  obtain ⟨m, hm⟩ : ∃ m, m = W * H := ⟨_, rfl⟩
  have e1 : (W : Int) * (H : Int) = (m : Int) := by rw [hm]; simp
  have hm2 : m ≤ 1024 := by rw [hm]; exact mul_small hW hH
  unfold tileB
  rw [← hm]
  clear hm
  by_cases h : 0 ≤ t
  · go_enter Try.func31, Try.ntmps31
    go_wp2
    go_ret
    exact ⟨ret_bool (by simp [h]), rfl⟩
  · go_enter Try.func31, Try.ntmps31
    go_wp2
    go_ret
    exact ⟨ret_bool (by simp; omega), rfl⟩

/-- A tile's four corners, as a value. -/
abbrev four (W t : Nat) : Value := .agg #[.int .i64 (nw W t : Nat), .int .i64 (nw W t + 1 : Nat), .int .i64 (nw W t + W + 2 : Nat), .int .i64 (nw W t + W + 1 : Nat)]
theorem nw_lt {W H t : Nat} (ht : t < W * H) : nw W t + W + 2 < (W + 1) * (H + 1) := by
  unfold nw
  have hW : 0 < W := by rcases Nat.eq_zero_or_pos W with h | h; · subst h; simp at ht
                        · exact h
  have h1 : t / W < H := Nat.div_lt_of_lt_mul ht
  have h2 := Nat.mod_lt t hW
  have h3 : (t / W + 2) * (W + 1) ≤ (H + 1) * (W + 1) := Nat.mul_le_mul_right _ (by omega)
  rw [Nat.add_mul] at h3
  rw [Nat.mul_comm (W + 1)]; omega

set_option maxHeartbeats 1600000 in
theorem places_any (W H : Nat) (hW1 : 1 ≤ W) (hW : W ≤ 32) (hH : H ≤ 32) (s : Value) (t : Nat) (ht : t < W * H) (w : World) : Calls Try.prog 68 #[lv W H s, .int .i64 t] w fun r w' => r = .returned (four W t) ∧ Below w.heap.size w w' := by
  have hb := nw_lt ht
  have hc : (W + 1) * (H + 1) ≤ 1089 := Nat.mul_le_mul (show W + 1 ≤ 33 by omega) (show H + 1 ≤ 33 by omega)
  have ht2 : t ≤ 1024 := by have := mul_small hW hH; omega
  obtain ⟨u, hu⟩ : ∃ u, u = t % W := ⟨_, rfl⟩
  obtain ⟨v, hv⟩ : ∃ v, v = t / W := ⟨_, rfl⟩
  obtain ⟨a, ha⟩ : ∃ a, a = v * (W + 1) := ⟨_, rfl⟩
  have e1 : (t : Int) / (W : Int) = (v : Int) := by rw [hv]; simp
  have e2 : (t : Int) % (W : Int) = (u : Int) := by rw [hu]; simp
  have e3 : (v : Int) * ((W : Int) + 1) = (a : Int) := by rw [ha]; simp
  have hn : nw W t = a + u := by unfold nw; rw [← hu, ← hv, ← ha]
  have HN := hid hn
  have hv2 : v ≤ 1024 := by rw [hv]; exact Nat.le_trans (Nat.div_le_self _ _) ht2
  have hb2 : a + u + W + 2 < 1089 := by omega
  clear hb hc ht hn hu hv ha
  have w1 : IntKind.i64.wrap (v : Int) = (v : Int) := by rw [IntKind.wrap_i64]; omega
  have w2 : IntKind.i64.wrap (a : Int) = (a : Int) := by rw [IntKind.wrap_i64]; omega
  have w3 : IntKind.i64.wrap ((a : Int) + (u : Int)) = (a : Int) + (u : Int) := by rw [IntKind.wrap_i64]; omega
  go_enter Try.func68, Try.ntmps68
  go_wp2_with fail
  go_quiet (fail)
  go_wp2
  refine bodyPost_ret (v := four W t) (by unfold four; rw [HN.out]; simp [results, Try.results68, go_sem]; try omega) rfl ⟨rfl, ?_⟩
  exact ((((((Joins.below_alloc2 _ _ _).trans (Joins.below_draws _ _ _)).setCell (Nat.le_succ _) _).setCell (Nat.le_succ _) _).setCell (Nat.le_succ _) _).setCell (Nat.le_succ _) _)
set_option maxHeartbeats 1600000 in
theorem refplaces_any (W H : Nat) (hW1 : 1 ≤ W) (hW : W ≤ 32) (hH : H ≤ 32) (s : Value) (t : Nat) (ht : t < W * H) (w : World) : Calls Try.prog 62 #[lv W H s, .int .i64 t] w fun r w' => r = .returned (four W t) ∧ Below w.heap.size w w' := by
  have hb := nw_lt ht
  have hc : (W + 1) * (H + 1) ≤ 1089 := Nat.mul_le_mul (show W + 1 ≤ 33 by omega) (show H + 1 ≤ 33 by omega)
  have ht2 : t ≤ 1024 := by have := mul_small hW hH; omega
  obtain ⟨u, hu⟩ : ∃ u, u = t % W := ⟨_, rfl⟩
  obtain ⟨v, hv⟩ : ∃ v, v = t / W := ⟨_, rfl⟩
  obtain ⟨a, ha⟩ : ∃ a, a = v * (W + 1) := ⟨_, rfl⟩
  have e1 : (t : Int) / (W : Int) = (v : Int) := by rw [hv]; simp
  have e2 : (t : Int) % (W : Int) = (u : Int) := by rw [hu]; simp
  have e3 : (v : Int) * ((W : Int) + 1) = (a : Int) := by rw [ha]; simp
  have hn : nw W t = a + u := by unfold nw; rw [← hu, ← hv, ← ha]
  have HN := hid hn
  have hv2 : v ≤ 1024 := by rw [hv]; exact Nat.le_trans (Nat.div_le_self _ _) ht2
  have hb2 : a + u + W + 2 < 1089 := by omega
  clear hb hc ht hn hu hv ha
  have w1 : IntKind.i64.wrap (v : Int) = (v : Int) := by rw [IntKind.wrap_i64]; omega
  have w2 : IntKind.i64.wrap (a : Int) = (a : Int) := by rw [IntKind.wrap_i64]; omega
  have w3 : IntKind.i64.wrap ((a : Int) + (u : Int)) = (a : Int) + (u : Int) := by rw [IntKind.wrap_i64]; omega
  go_enter Try.func62, Try.ntmps62
  go_wp2_with fail
  go_quiet (fail)
  go_wp2
  refine bodyPost_ret (v := four W t) (by unfold four; rw [HN.out]; simp [results, Try.results62, go_sem]; try omega) rfl ⟨rfl, ?_⟩
  exact ((((((Joins.below_alloc2 _ _ _).trans (Joins.below_draws _ _ _)).setCell (Nat.le_succ _) _).setCell (Nat.le_succ _) _).setCell (Nat.le_succ _) _).setCell (Nat.le_succ _) _)

set_option maxHeartbeats 400000 in
theorem cost_any (ao : Option Addr) (n cap : Nat) (hn : n ≤ 100000) (w : World) : Calls Try.prog 65 #[.slice ao n cap] w fun r w' => r = .returned (.int .i64 (n * 250 : Nat)) ∧ w = w' := by
  go_enter Try.func65, Try.ntmps65
  go_wp2
  go_ret
  exact ⟨ret_int (by omega), rfl⟩

/-- Numbers as cells. -/
def ints (n : Nat) (Z : Nat → Int) : List Value := (List.range n).map fun i => .int .i64 (Z i)
theorem ints_length (n : Nat) (Z : Nat → Int) : (ints n Z).length = n := by simp [ints]
theorem ints_get {n : Nat} (Z : Nat → Int) {j : Nat} (h : j < n) : (ints n Z)[j]? = some (.int .i64 (Z j)) := by simp [ints, h]
theorem ints_set (n : Nat) (Z : Nat → Int) (j : Nat) (x : Int) : (ints n Z).set j (.int .i64 x) = ints n (fun i => if i = j then x else Z i) := by
  apply List.ext_getElem?
  intro i
  rw [List.getElem?_set]
  by_cases hi : i < n
  · rw [ints_get _ hi, ints_length, ints_get _ hi]
    by_cases h : j = i
    · subst h; simp [hi]
    · rw [if_neg h, if_neg (Ne.symm h)]
  · rw [List.getElem?_eq_none (by rw [ints_length]; omega)]
    rw [List.getElem?_eq_none (l := ints n _) (by rw [ints_length]; omega)]
    simp [ints_length]; omega
theorem ints_congr {n : Nat} {Z Y : Nat → Int} (h : ∀ i, i < n → Z i = Y i) : ints n Z = ints n Y := by
  unfold ints; apply List.map_congr_left; intro i hi; rw [h i (by simpa using hi)]
theorem ints_succ (n : Nat) (Z : Nat → Int) : ints (n + 1) Z = ints n Z ++ [.int .i64 (Z n)] := by simp [ints, List.range_succ]
theorem info3 : (Try.prog.info? 3).map (fun i => (i.zero, i.size, i.bytes)) = some (some (.int .i64 0), 1, 8) := by kernel_rfl
theorem info4 : (Try.prog.info? 4).map (fun i => (i.zero, i.size, i.bytes)) = some (some (.bool false), 1, 1) := by kernel_rfl

set_option maxHeartbeats 1600000 in
theorem clone_any (ao : Option Addr) (n cap : Nat) (Z : Nat → Int) (hn1 : 0 < n) (hn : n ≤ 1089) (w : World) (hI : Ints w ao n Z) : Calls Try.prog 75 #[.slice ao n cap] w fun r w' =>
    ∃ v, r = .returned v ∧ w'.ownsRow w.heap.size 3 1 v n (ints n Z) ∧ Below w.heap.size w w' := by
  obtain ⟨i0, hi, hz0, hz1, hz2⟩ := info_parts info3
  have HIN := hid (And.intro hi (And.intro hz0 (And.intro hz1 hz2)))
  clear hi hz0 hz1 hz2
  obtain ⟨b, off, rfl, hbz, hcell⟩ := hI.one hn1
  have HC := hid hcell
  clear hcell hI
  have q22 : ∀ (w : World) (a : Option Addr) (n c n' c' : Nat), (binOp .eql 22 (.slice a n c) (.slice none n' c')).run Try.prog w = .ok (.bool a.isNone) w := fun w a n c n' c' => Lib.run_eql_slice_nil w _ _ a n c n' c' Try.underlying22
  have u22 : ∀ w, Sem.run Try.prog (underlying 22) w = .ok (TypeDesc.slice 3) w := run_underlying Try.underlying22
  go_enter Try.func75, Try.ntmps75
  go_wp2_with (at_builtin; refine wpList_append_own _ rfl _ _ 22 rfl w.heap.size 3 i0 (.int .i64 0) 1 8 Try.underlying22 HIN.out.1 HIN.out.2.1 HIN.out.2.2.1 HIN.out.2.2.2 rfl (by decide) _ _ _ rfl (World.ownsRow_made w #[] 0 (Nat.le_refl _) (Nat.zero_le _) rfl) ⟨b, off, none⟩ n cap (ints n Z) rfl ?qc1 ?qc2 ?qc3 ?qc4 ?qc5 ?qc6 ?_)
  case qc1 => simp [ints_length]
  case qc2 =>
    intro j u hj
    have hjn : j < n := by have := (List.getElem?_eq_some_iff.1 hj).1; rwa [ints_length] at this
    rw [ints_get _ hjn] at hj
    rw [Addr.add_lit, World.cell?_alloc_past _ _ _ hbz, HC.out j hjn]
    exact hj
  case qc3 => intro u hu; obtain ⟨x, _, rfl⟩ := List.mem_map.1 hu; rfl
  case qc4 => unfold maxLen; omega
  case qc5 => omega
  case qc6 => simp
  intro v' w1 hown hgrow hnil
  go_wp2
  go_ret
  refine ⟨v', rfl, by simpa using hown, ?_⟩
  exact ((Below.refl _ w).alloc (Nat.le_refl _) _).grown hgrow (by simp) (by intro k hk; simp [Value.ownBlock] at hk; omega)
end Go.Proofs.Ytngamphkehppfaa
