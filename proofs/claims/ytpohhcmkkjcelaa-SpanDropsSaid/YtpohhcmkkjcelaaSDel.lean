/-
  The walk of Delete on a list of spans.
-/
import Derived.Test.YtpohhcmkkjcelaaSDrop
import Derived.Shelf.RegionOpenPlain
import Derived.Deep.RegionLaw
import Derived.Lib.SliceRun
namespace Go.Proofs.Ytpohhcmkkjcelaa
open Go.RowKit

theorem heap_setCells {g : Nat} {e : TypeId} : ∀ (vs : List Value) (o : Nat) (w : World) (cur : Array Value), w.heap[g]? = some (.cells cur e (0, 0)) → o + vs.length ≤ cur.size →
    ∃ cur', (w.setCells g o vs).heap[g]? = some (.cells cur' e (0, 0)) ∧ cur'.toList = cur.toList.take o ++ vs ++ cur.toList.drop (o + vs.length) := by
  intro vs
  induction vs with
  | nil => intro o w cur hg h; exact ⟨cur, hg, by simp⟩
  | cons v vs ih =>
    intro o w cur hg h
    simp only [List.length_cons] at h
    obtain ⟨cur', h1, h2⟩ := ih (o + 1) (w.setCell ⟨g, o, none⟩ v) (cur.setIfInBounds o v) (heap_setCell_same w g o cur e v hg) (by simp; omega)
    refine ⟨cur', h1, ?_⟩
    have ho : o < cur.toList.length := by simp; omega
    have e1 : (cur.toList.set o v).take (o + 1) = cur.toList.take o ++ [v] := by
      rw [List.set_eq_take_append_cons_drop, if_pos ho, List.take_append, List.length_take, Nat.min_eq_left (by omega), List.take_of_length_le (by rw [List.length_take]; omega), show o + 1 - o = 1 by omega]
      rfl
    have e2 : (cur.toList.set o v).drop (o + 1 + vs.length) = cur.toList.drop (o + 1 + vs.length) := List.drop_set_of_lt (by omega)
    rw [h2, Array.toList_setIfInBounds, e1, e2, show o + (v :: vs).length = o + 1 + vs.length by simp; omega]
    simp
theorem encL_app (L M : List Sp) : encL (L ++ M) = encL L ++ encL M := by simp [encL]
theorem below_setCells {B g : Nat} {a : World} (hb : B ≤ g) : ∀ (vs : List Value) (o : Nat) (w : World), Below B a w → Below B a (w.setCells g o vs)
  | [], _, _, h => h
  | v :: vs, o, _, h => below_setCells hb vs (o + 1) _ (h.setCell (p := ⟨g, o, none⟩) hb v)
theorem run_clear_span (w : World) (ty : TypeId) (b o c : Nat)
    (hc : ∀ j, j < 4 → (w.cell? ⟨b, o + j, none⟩).isSome = true) (hf : ∀ j, j < 4 → w.frozen? ⟨b, o + j, none⟩ = false) :
    (Builtin.clear_ #[34] ty #[.slice (some ⟨b, o, none⟩) 1 c]).run Try.prog w = .ok (.tuple #[]) (w.setCells b o [.int .i64 0, .int .i64 0, .int .i64 0, .int .i64 0]) := by
  have hzc : (Builtin.zeroCells (Value.agg #[.int .i64 0, .int .i64 0, .int .i64 0, .int .i64 0]).cells 1).toList = [.int .i64 0, .int .i64 0, .int .i64 0, .int .i64 0] := by kernel_rfl
  have hst := run_storeCells_cells (P := Try.prog) b o [.int .i64 0, .int .i64 0, .int .i64 0, .int .i64 0] 0 w (by simpa using hc) (by simpa using hf) (by intro v hv'; simp at hv'; subst hv'; rfl)
  simp only [Nat.add_zero] at hst
  simp [Builtin.clear_, run_underlying Try.underlying34, hzc, hst]
/-- A row's cells, to read and to write. -/
theorem row_cur {w : World} {B g m c : Nat} {xs : List Value} (h : w.ownsRow B 26 4 (.slice (some ⟨g, 0, none⟩) m c) m xs) : ∃ cur, w.heap[g]? = some (.cells cur 26 (0, 0)) ∧ m ≤ c ∧ c ≤ maxLen ∧ cur.size = c * 4 ∧ cur.toList.take (m * 4) = xs ∧ B ≤ g := by
  rcases h.2 with ⟨h, _⟩ | ⟨g', c', cur, e, hb, hg, h1, h2, h3, h4⟩
  · cases h
  · cases e
    exact ⟨cur, hg, h1, h2, h3, h4, hb⟩
theorem cur_cell {w : World} {g : Nat} {e : TypeId} {cur : Array Value} (h : w.heap[g]? = some (.cells cur e (0, 0))) (j : Nat) (hj : j < cur.size) : (w.cell? ⟨g, j, none⟩).isSome = true ∧ w.frozen? ⟨g, j, none⟩ = false :=
  ⟨by rw [cell_of_row w g j cur e (0, 0) h]; simp [hj], frozen_of_row w g j cur e h⟩

set_option maxHeartbeats 6400000 in
set_option maxRecDepth 1000000 in
theorem delete_any (B g m c i j : Nat) (S : Nat → Sp) (hij : j = i + 1) (hi : i < m) (hm : m ≤ 300) (w : World) (hrow : w.ownsRow B 26 4 (.slice (some ⟨g, 0, none⟩) m c) m (encL (rng S 0 m))) :
    Calls Try.prog 40 #[.slice (some ⟨g, 0, none⟩) m c, .int .i64 i, .int .i64 j] w fun r w' => r = .returned (.slice (some ⟨g, 0, none⟩) (i + (m - j)) c) ∧
      w'.ownsRow B 26 4 (.slice (some ⟨g, 0, none⟩) (i + (m - j)) c) (i + (m - j)) (encL (rng S 0 i ++ rng S j (m - j))) ∧ Below B w w' := by
  obtain ⟨i0, hi0, hz0, hz1, hz2⟩ := info_parts infoS
  obtain ⟨cur, hg, hmc, hcm, hcs, htk, hBg⟩ := row_cur hrow
  obtain ⟨news, hnews⟩ : ∃ news, news = encL (rng S j (m - j)) := ⟨_, rfl⟩
  have hlen : news.length = (m - j) * 4 := by rw [hnews, encL_len, rng_len]
  have hgd : w.drew.heap[g]? = some (.cells cur 26 (0, 0)) := hg
  have hget : ∀ t u, news[t]? = some u → w.drew.cell? ⟨g, j * 4 + t, none⟩ = some u := by
    intro t u hu
    have ht : t < (m - j) * 4 := by
      have := (List.getElem?_eq_some_iff.1 hu).1
      rwa [hlen] at this
    rw [cell_of_row w.drew g _ cur 26 (0, 0) hgd, ← Array.getElem?_toList]
    have h1 : (cur.toList.take (m * 4))[j * 4 + t]? = some u := by
      rw [htk, show rng S 0 m = rng S 0 j ++ rng S j (m - j) by unfold rng; rw [← List.map_append]; congr 1; rw [show m = j + (m - j) by omega, ← List.range'_append_1]; simp, encL_app, List.getElem?_append_right (by rw [encL_len, rng_len]; omega), encL_len, rng_len, show j * 4 + t - j * 4 = t by omega, ← hnews]
      exact hu
    rw [List.getElem?_take] at h1
    split at h1
    · exact h1
    · cases h1
  obtain ⟨A, hA, hsrc⟩ : ∃ A : Addr, (if c = j then some (⟨g, 0, none⟩ : Addr) else some ⟨g, j * 4, none⟩) = some A ∧ Hid (∀ t u, news[t]? = some u → w.drew.cell? (A.add t) = some u) := by
    by_cases h : c = j
    · refine ⟨⟨g, 0, none⟩, by simp [h], fun t u hu => ?_⟩
      have h0 : news.length = 0 := by rw [hlen]; omega
      rw [List.length_eq_zero_iff.1 h0] at hu
      simp at hu
    · refine ⟨⟨g, j * 4, none⟩, by simp [h], fun t u hu => ?_⟩
      rw [Addr.add_lit]
      exact hget t u hu
  have s1 : Hid (news.length = (m - j) * 4) := hlen
  have s2 : Hid (∀ u ∈ news, u.oneCell' = true) := by rw [hnews]; exact encL_one
  have s3 : Hid (∀ t, t < news.length → (w.drew.cell? ⟨g, 0 + i * 4 + t, none⟩).isSome = true ∧ w.drew.frozen? ⟨g, 0 + i * 4 + t, none⟩ = false) := fun t ht => cur_cell hgd _ (by rw [hcs]; omega)
  obtain ⟨W1, hW1⟩ : ∃ W1, W1 = w.drew.setCells g (0 + i * 4) news := ⟨_, rfl⟩
  obtain ⟨cur1, hg1, ht1⟩ := heap_setCells news (0 + i * 4) w.drew cur hgd (by rw [hcs]; omega)
  rw [← hW1] at hg1
  have hs1 : cur1.size = c * 4 := by rw [← Array.length_toList, ht1]; simp; omega
  have hcl : ∀ ty, (Builtin.clear_ #[34] ty #[.slice (some ⟨g, (i + (m - j)) * 4, none⟩) (m - (i + (m - j))) (c - (i + (m - j)))]).run Try.prog W1 = .ok (.tuple #[]) (W1.setCells g ((i + (m - j)) * 4) [.int .i64 0, .int .i64 0, .int .i64 0, .int .i64 0]) := fun ty => by
    rw [show m - (i + (m - j)) = 1 by omega]
    exact run_clear_span W1 ty g _ _ (fun t ht => (cur_cell hg1 _ (by omega)).1) (fun t ht => (cur_cell hg1 _ (by omega)).2)
  have hW : Hid (W1 = w.drew.setCells g (0 + i * 4) news) := hW1
  have hic : i ≤ c := by omega
  have hjc : j ≤ c := by omega
  have hij' : i ≤ j := by omega
  have hne : ((i : Int) == (j : Int)) = false := by rw [beq_eq_false_iff_ne]; omega
  have hlt : i < j := by omega
  have HIJ := hid hij
  have HN := hid hnews
  have hjm : j ≤ m := by omega
  have HG := hid (And.intro hg1 (And.intro ht1 hs1))
  have HT := hid htk
  have HH := hid (And.intro hi0 (And.intro hz0 (And.intro hz1 hz2)))
  clear hW1 hg1 ht1 hs1 hgd hget hnews hlen hrow htk hi0 hz0 hz1 hz2 hg hij
  go_enter Try.func40, Try.ntmps40
  go_wp2_with fail
  go_region_law (refine step_append_room rfl (.tmp 22) (.tmp 25) 34 rfl 26 i0 4 Try.underlying34 HH.out.1 HH.out.2.2.1 g 0 i c (by simp [Act.eval, Act.put]) A (m - j) (c - j) news (by simp [Act.eval, Act.put]) s1.out hsrc.out s2.out (by omega) s3.out ?_; rw [← hW.out])
  go_wp2_with fail
  go_ret
  obtain ⟨hg1, ht1, hs1⟩ := HG.out
  have hnews := HN.out
  have HIJ := HIJ.out
  have o1 : (i + (m - j)) * 4 + [(.int .i64 0 : Value), .int .i64 0, .int .i64 0, .int .i64 0].length ≤ cur1.size := by simp; omega
  obtain ⟨cur2, hg2, ht2⟩ := heap_setCells [.int .i64 0, .int .i64 0, .int .i64 0, .int .i64 0] ((i + (m - j)) * 4) W1 cur1 hg1 o1
  have l1 : cur1.toList.length = c * 4 := by rw [Array.length_toList, hs1]
  have l0 : cur.toList.length = c * 4 := by rw [Array.length_toList, hcs]
  have e1 : cur1.toList.take ((i + (m - j)) * 4) = cur.toList.take (i * 4) ++ news := by
    rw [ht1, Nat.zero_add, List.take_append_of_le_length (by rw [List.length_append, List.length_take, s1.out, l0]; omega), List.take_of_length_le (by rw [List.length_append, List.length_take, s1.out, l0]; omega)]
  have e2 : cur.toList.take (i * 4) = encL (rng S 0 i) := by
    rw [show cur.toList.take (i * 4) = (cur.toList.take (m * 4)).take (i * 4) by rw [List.take_take, Nat.min_eq_left (by omega)], HT.out, show rng S 0 m = rng S 0 i ++ rng S i (m - i) by unfold rng; rw [← List.map_append]; congr 1; rw [show m = i + (m - i) by omega, ← List.range'_append_1]; simp, encL_app, List.take_append_of_le_length (by rw [encL_len, rng_len]; omega), List.take_of_length_le (by rw [encL_len, rng_len]; omega)]
  refine ⟨rfl, ⟨by rw [encL_len, List.length_append, rng_len, rng_len], .inr ⟨g, c, cur2, rfl, hBg, hg2, by omega, hcm, ?_, ?_⟩⟩, ?_⟩
  · rw [← Array.length_toList, ht2]; simp; omega
  · rw [ht2, List.append_assoc, List.take_append_of_le_length (by rw [List.length_take, l1]; omega), List.take_of_length_le (by rw [List.length_take, l1]; omega), e1, e2, encL_app, hnews]
  · rw [hW.out]
    exact below_setCells hBg _ _ _ (below_setCells hBg _ _ _ (Below.refl _ _).drew)
end Go.Proofs.Ytpohhcmkkjcelaa
