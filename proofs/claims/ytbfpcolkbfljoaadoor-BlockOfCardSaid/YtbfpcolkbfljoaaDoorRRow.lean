/-
  Rows of the call's own, and the walks of what copies rails.
-/
import Derived.Test.YtbfpcolkbfljoaaDoorRBox
import Derived.Test.YtbfpcolkbfljoaaDoorRWalkLies
import Derived.Deep.AppendLies
import Derived.Deep.LoopGhost
import Derived.WalkMore
namespace Go.Proofs.YtbfpcolkbfljoaaDoor
open Go.RowKit

theorem row_below {w w' : World} {B B' : Nat} {e : TypeId} {size n : Nat} {v : Value} {xs : List Value} (h : w.ownsRow B e size v n xs) (hb : Below B' w w') (hv : ∀ k, v.ownBlock = some k → k < B') : w'.ownsRow B e size v n xs := by
  refine ⟨h.1, ?_⟩
  rcases h.2 with hn | ⟨g, cap, cur, rfl, hB, hg, rest⟩
  · exact .inl hn
  · refine .inr ⟨g, cap, cur, rfl, hB, ?_, rest⟩
    rw [hb.block g (hv g rfl)]
    exact hg
theorem row_stays {w w' : World} {B : Nat} {e : TypeId} {size n : Nat} {v : Value} {xs : List Value} (h : w.ownsRow B e size v n xs) (hb : Below w.heap.size w w') : w'.ownsRow B e size v n xs :=
  row_below h hb fun k hk => (h.lt k hk).2
theorem row_mono {w : World} {base base' : Nat} {e : TypeId} {size : Nat} {v : Value} {n : Nat} {xs : List Value} (h : w.ownsRow base e size v n xs) (hb : base' ≤ base) : w.ownsRow base' e size v n xs := by
  refine ⟨h.1, ?_⟩
  rcases h.2 with hn | ⟨g, cap, cur, hv, hB, rest⟩
  · exact .inl hn
  · exact .inr ⟨g, cap, cur, hv, by omega, rest⟩
theorem row_other {w : World} {base : Nat} {e : TypeId} {size : Nat} {v : Value} {n : Nat} {xs : List Value} (h : w.ownsRow base e size v n xs) {a : Addr} (ha : v.ownBlock ≠ some a.block) (u : Value) : (w.setCell a u).ownsRow base e size v n xs := by
  refine ⟨h.1, ?_⟩
  rcases h.2 with hn | ⟨g, cap, cur, rfl, hB, hg, rest⟩
  · exact .inl hn
  · refine .inr ⟨g, cap, cur, rfl, hB, ?_, rest⟩
    rw [Below.heap_setCell _ _ _ g (by simpa [Value.ownBlock] using ha)]
    exact hg

/-- Values as cells. -/
def vals (n : Nat) (F : Nat → Value) : List Value := (List.range n).map F
theorem vals_length (n : Nat) (F : Nat → Value) : (vals n F).length = n := by simp [vals]
theorem vals_get {n : Nat} (F : Nat → Value) {j : Nat} (h : j < n) : (vals n F)[j]? = some (F j) := by simp [vals, h]
theorem vals_set (n : Nat) (F : Nat → Value) (j : Nat) (x : Value) : (vals n F).set j x = vals n (fun i => if i = j then x else F i) := by
  apply List.ext_getElem?
  intro i
  rw [List.getElem?_set]
  by_cases hi : i < n
  · rw [vals_get _ hi, vals_length, vals_get _ hi]
    by_cases h : j = i
    · subst h; simp [hi]
    · rw [if_neg h, if_neg (Ne.symm h)]
  · rw [List.getElem?_eq_none (by rw [vals_length]; omega)]
    rw [List.getElem?_eq_none (l := vals n _) (by rw [vals_length]; omega)]
    simp [vals_length]; omega
theorem vals_congr {n : Nat} {F G : Nat → Value} (h : ∀ i, i < n → F i = G i) : vals n F = vals n G := by
  unfold vals; apply List.map_congr_left; intro i hi; rw [h i (by simpa using hi)]
theorem vals_succ (n : Nat) (F : Nat → Value) : vals (n + 1) F = vals n F ++ [F n] := by simp [vals, List.range_succ]
theorem vals_of_row {w : World} {B g n cap : Nat} {F : Nat → Value} {e : TypeId} (h : w.ownsRow B e 1 (.slice (some ⟨g, 0, none⟩) n cap) n (vals n F)) : Vals w (some ⟨g, 0, none⟩) n F := fun j hj =>
  ⟨g, 0, rfl, (h.lt g rfl).2, by rw [Nat.zero_add, h.cellAt j (by omega), vals_get _ hj]⟩
abbrev iv (Z : Nat → Int) : Nat → Value := fun j => .int .i64 (Z j)
abbrev bv (B : Nat → Bool) : Nat → Value := fun j => .bool (B j)
theorem info3 : (Tryd.prog.info? 3).map (fun i => (i.zero, i.size, i.bytes)) = some (some (.int .i64 0), 1, 8) := by kernel_rfl
theorem info4 : (Tryd.prog.info? 4).map (fun i => (i.zero, i.size, i.bytes)) = some (some (.bool false), 1, 1) := by kernel_rfl

set_option maxHeartbeats 1600000 in
theorem cloneI_any (ao : Option Addr) (n cap : Nat) (F : Nat → Value) (hn1 : 0 < n) (hn : n ≤ 1089) (hF : ∀ j, j < n → (F j).oneCell' = true) (w : World) (hI : Vals w ao n F) : Calls Tryd.prog 80 #[.slice ao n cap] w fun r w' =>
    ∃ g c, r = .returned (.slice (some ⟨g, 0, none⟩) n c) ∧ w'.ownsRow w.heap.size 3 1 (.slice (some ⟨g, 0, none⟩) n c) n (vals n F) ∧ Below w.heap.size w w' := by
  obtain ⟨i0, hi, hz0, hz1, hz2⟩ := info_parts info3
  have HIN := hid (And.intro hi (And.intro hz0 (And.intro hz1 hz2)))
  clear hi hz0 hz1 hz2
  obtain ⟨b, off, rfl, hbz, hcell⟩ := hI.one hn1
  have HC := hid hcell
  have HF := hid hF
  clear hcell hI hF
  have q22 : ∀ (w : World) (a : Option Addr) (n c n' c' : Nat), (binOp .eql 22 (.slice a n c) (.slice none n' c')).run Tryd.prog w = .ok (.bool a.isNone) w := fun w a n c n' c' => Lib.run_eql_slice_nil w _ _ a n c n' c' Tryd.underlying22
  have u22 : ∀ w, Sem.run Tryd.prog (underlying 22) w = .ok (TypeDesc.slice 3) w := run_underlying Tryd.underlying22
  go_enter Tryd.func80, Tryd.ntmps80
  go_wp2_with (at_builtin; refine wpList_append_own _ rfl _ _ 22 rfl w.heap.size 3 i0 (.int .i64 0) 1 8 Tryd.underlying22 HIN.out.1 HIN.out.2.1 HIN.out.2.2.1 HIN.out.2.2.2 rfl (by decide) _ _ _ rfl (World.ownsRow_made w #[] 0 (Nat.le_refl _) (Nat.zero_le _) rfl) ⟨b, off, none⟩ n cap (vals n F) rfl ?qc1 ?qc2 ?qc3 ?qc4 ?qc5 ?qc6 ?_)
  case qc1 => simp [vals_length]
  case qc2 =>
    intro j u hj
    have hjn : j < n := by have := (List.getElem?_eq_some_iff.1 hj).1; rwa [vals_length] at this
    rw [vals_get _ hjn] at hj
    rw [Addr.add_lit, World.cell?_alloc_past _ _ _ hbz, HC.out j hjn]
    exact hj
  case qc3 =>
    intro u hu
    obtain ⟨x, hx, rfl⟩ := List.mem_map.1 hu
    exact HF.out x (by simpa using hx)
  case qc4 => unfold maxLen; omega
  case qc5 => omega
  case qc6 => simp
  intro v' w1 hown hgrow hnil
  have hown' : w1.ownsRow w.heap.size 3 1 v' n (vals n F) := by simpa using hown
  obtain ⟨g, c, rfl, _, _⟩ := hown'.form (by omega)
  have HO := hid hown'
  have HG := hid hgrow
  clear hown hown' hgrow hnil
  go_wp2
  go_ret
  refine ⟨g, c, rfl, HO.out, ?_⟩
  exact ((Below.refl _ w).alloc (Nat.le_refl _) _).grown HG.out (by simp) (by intro k hk; simp [Value.ownBlock] at hk; omega)
set_option maxHeartbeats 1600000 in
theorem cloneB_any (ao : Option Addr) (n cap : Nat) (F : Nat → Value) (hn1 : 0 < n) (hn : n ≤ 1089) (hF : ∀ j, j < n → (F j).oneCell' = true) (w : World) (hI : Vals w ao n F) : Calls Tryd.prog 81 #[.slice ao n cap] w fun r w' =>
    ∃ g c, r = .returned (.slice (some ⟨g, 0, none⟩) n c) ∧ w'.ownsRow w.heap.size 4 1 (.slice (some ⟨g, 0, none⟩) n c) n (vals n F) ∧ Below w.heap.size w w' := by
  obtain ⟨i0, hi, hz0, hz1, hz2⟩ := info_parts info4
  have HIN := hid (And.intro hi (And.intro hz0 (And.intro hz1 hz2)))
  clear hi hz0 hz1 hz2
  obtain ⟨b, off, rfl, hbz, hcell⟩ := hI.one hn1
  have HC := hid hcell
  have HF := hid hF
  clear hcell hI hF
  have q23 : ∀ (w : World) (a : Option Addr) (n c n' c' : Nat), (binOp .eql 23 (.slice a n c) (.slice none n' c')).run Tryd.prog w = .ok (.bool a.isNone) w := fun w a n c n' c' => Lib.run_eql_slice_nil w _ _ a n c n' c' Tryd.underlying23
  have u23 : ∀ w, Sem.run Tryd.prog (underlying 23) w = .ok (TypeDesc.slice 4) w := run_underlying Tryd.underlying23
  go_enter Tryd.func81, Tryd.ntmps81
  go_wp2_with (at_builtin; refine wpList_append_own _ rfl _ _ 23 rfl w.heap.size 4 i0 (.bool false) 1 1 Tryd.underlying23 HIN.out.1 HIN.out.2.1 HIN.out.2.2.1 HIN.out.2.2.2 rfl (by decide) _ _ _ rfl (World.ownsRow_made w #[] 0 (Nat.le_refl _) (Nat.zero_le _) rfl) ⟨b, off, none⟩ n cap (vals n F) rfl ?qc1 ?qc2 ?qc3 ?qc4 ?qc5 ?qc6 ?_)
  case qc1 => simp [vals_length]
  case qc2 =>
    intro j u hj
    have hjn : j < n := by have := (List.getElem?_eq_some_iff.1 hj).1; rwa [vals_length] at this
    rw [vals_get _ hjn] at hj
    rw [Addr.add_lit, World.cell?_alloc_past _ _ _ hbz, HC.out j hjn]
    exact hj
  case qc3 =>
    intro u hu
    obtain ⟨x, hx, rfl⟩ := List.mem_map.1 hu
    exact HF.out x (by simpa using hx)
  case qc4 => unfold maxLen; omega
  case qc5 => omega
  case qc6 => simp
  intro v' w1 hown hgrow hnil
  have hown' : w1.ownsRow w.heap.size 4 1 v' n (vals n F) := by simpa using hown
  obtain ⟨g, c, rfl, _, _⟩ := hown'.form (by omega)
  have HO := hid hown'
  have HG := hid hgrow
  clear hown hown' hgrow hnil
  go_wp2
  go_ret
  refine ⟨g, c, rfl, HO.out, ?_⟩
  exact ((Below.refl _ w).alloc (Nat.le_refl _) _).grown HG.out (by simp) (by intro k hk; simp [Value.ownBlock] at hk; omega)
end Go.Proofs.YtbfpcolkbfljoaaDoor
