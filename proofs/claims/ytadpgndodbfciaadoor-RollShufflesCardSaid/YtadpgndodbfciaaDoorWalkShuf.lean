/-
  The walks of Shuffle, of the program and of the reference.
-/
import Derived.Test.YtadpgndodbfciaaDoorShuf
import Derived.BigRegion
namespace Go.Proofs.YtadpgndodbfciaaDoor
open Go.RowKit

theorem info3 : (Tryd.prog.info? 3).map (fun i => (i.zero, i.size, i.bytes)) = some (some (.int .i64 0), 1, 8) := by kernel_rfl

/-- A slice of the call's own that holds these numbers. -/
def Own (B : Nat) (w : World) (v : Value) (L : List Int) : Prop :=
  ∃ ao cap, v = .slice ao L.length cap ∧ ∀ j, j < L.length → ∃ g, ao = some ⟨g, 0, none⟩ ∧ B ≤ g ∧ g < w.heap.size ∧ w.cell? ⟨g, j, none⟩ = some (.int .i64 (L.getD j 0))
/-- Shuffle hands back the numbers in their order, and the stream behind the draws. -/
def ShufIs (s : Int) (n : Nat) (w : World) (e : Ending) (w' : World) : Prop :=
  ∃ v, e = .returned (.tuple #[v, .agg #[.int .u64 (shuf (n - 1) (iota n) s).2], .int .i64 0]) ∧ Own w.heap.size w' v (shuf (n - 1) (iota n) s).1 ∧ Below w.heap.size w w'

set_option maxHeartbeats 800000 in
theorem shuf_no (s n : Int) (h : n < 0 ∨ 1000 < n) (w : World) : Calls Tryd.prog 27 #[.agg #[.int .u64 s], .int .i64 n] w fun e w' =>
    e = .returned (.tuple #[.slice none 0 0, .agg #[.int .u64 0], .int .i64 (if 1000 < n then 4 else 1)]) ∧ Below w.heap.size w w' := by
  rcases h with h | h
  · rw [if_neg (by omega)]
    go_enter Tryd.func27, Tryd.ntmps27
    go_wp2
    exact bodyPost_ret (v := .tuple #[.slice none 0 0, .agg #[.int .u64 0], .int .i64 1]) (by simp [results, Tryd.results27, go_sem]) rfl ⟨rfl, Joins.below_alloc2 _ _ _⟩
  · rw [if_pos h]
    go_enter Tryd.func27, Tryd.ntmps27
    go_wp2
    exact bodyPost_ret (v := .tuple #[.slice none 0 0, .agg #[.int .u64 0], .int .i64 4]) (by simp [results, Tryd.results27, go_sem]) rfl ⟨rfl, Joins.below_alloc2 _ _ _⟩
set_option maxHeartbeats 800000 in
theorem refshuf_no (s n : Int) (h : n < 0 ∨ 1000 < n) (w : World) : Calls Tryd.prog 26 #[.agg #[.int .u64 s], .int .i64 n] w fun e w' =>
    e = .returned (.tuple #[.slice none 0 0, .agg #[.int .u64 0], .int .i64 (if 1000 < n then 4 else 1)]) ∧ Below w.heap.size w w' := by
  rcases h with h | h
  · rw [if_neg (by omega)]
    go_enter Tryd.func26, Tryd.ntmps26
    go_wp2
    exact bodyPost_ret (v := .tuple #[.slice none 0 0, .agg #[.int .u64 0], .int .i64 1]) (by simp [results, Tryd.results26, go_sem]) rfl ⟨rfl, Joins.below_alloc2 _ _ _⟩
  · rw [if_pos h]
    go_enter Tryd.func26, Tryd.ntmps26
    go_wp2
    exact bodyPost_ret (v := .tuple #[.slice none 0 0, .agg #[.int .u64 0], .int .i64 4]) (by simp [results, Tryd.results26, go_sem]) rfl ⟨rfl, Joins.below_alloc2 _ _ _⟩

set_option maxHeartbeats 3200000 in
theorem shuf_yes (s : Int) (n : Nat) (hn : n ≤ 1000) (w : World) : Calls Tryd.prog 27 #[.agg #[.int .u64 s], .int .i64 n] w (ShufIs s n w) := by
  obtain ⟨i0, hi, hz0, hz1, hz2⟩ := info_parts info3
  obtain ⟨b, hb⟩ : ∃ b, b = w.heap.size := ⟨_, rfl⟩
  have hbytes : i0.bytes * n ≤ 281474976710656 := by rw [hz2]; omega
  have hmax : n ≤ maxLen := by unfold maxLen; omega
  have HBB := hid hb
  go_enter Tryd.func27, Tryd.ntmps27
  go_wp2_with (at_make; refine wpList_make_full _ rfl _ _ 38 rfl 0 3 i0 (.int .i64 0) 1 Tryd.underlying38 hi hz0 hz1 .i64 .i64 (n : Int) (n : Int) n rfl rfl rfl rfl hbytes hmax (Nat.zero_le _) ?_; intro w1 hown1 hgrow1)
  have hst : St b (b + 1) (b + 1 + 1) n (.int .u64 0) s (fun _ => 0) w w1 := by rw [hb]; exact st_made hown1 hgrow1
  simp only [← hb]
  clear hown1 hgrow1
  generalize b + 1 + 1 = g at hst ⊢
  have HST := hid hst
  clear hst hb hi hz0 hz1 hz2 hbytes hmax
  go_wp2
  go_loopw [22] (fun iv wr => ∃ j : Nat, j ≤ n ∧ iv = .int .i64 j ∧ Hid (St b (b + 1) g n (.int .u64 0) s (fun p => if p < j then (p : Int) else 0) w wr)) (fun iv _ => n - (intOf iv).toNat)
  case atStart => exact ⟨0, Nat.zero_le _, rfl, hid (HST.out.congr (fun p _ => by simp))⟩
  case round =>
    obtain ⟨j, hj, rfl, hSt⟩ := hrel
    clear HST
    by_cases hlt : j < n
    · have c1 := hSt.out.cg j hlt
      have f1 := hSt.out.fg j hlt
      go_wp2
      go_roundw
      case rel =>
        refine ⟨j + 1, by omega, by go_num, hid ((hSt.out.setG j hlt j).congr (fun p hp => ?_))⟩
        by_cases h1 : p = j
        · subst h1; simp
        · simp only [h1, if_false]
          by_cases h2 : p < j
          · rw [if_pos h2, if_pos (by omega)]
          · rw [if_neg h2, if_neg (by omega)]
      case measure => simp [intOf]; omega
    · obtain rfl : j = n := by omega
      have h0 : St b (b + 1) g j (.int .u64 0) s (fun p => (iota j).getD p 0) w wr := hSt.out.congr (fun p hp => by rw [if_pos hp, iota_get j p hp])
      have hz := h0.hb
      have hN := h0.newc (.pointer (some ⟨b, 0, none⟩)) 59
      have HN := hid hN
      clear h0 hSt hN hlt
      go_wp2_with fail
      refine (drawer_any _ _).mono ?_
      rintro e w0 ⟨rfl, rfl⟩
      obtain ⟨c, hc⟩ : ∃ c, c = wr.heap.size := ⟨_, rfl⟩
      rw [← hc] at HN
      rw [← hc]
      generalize wr.alloc (.cells #[.pointer (some ⟨b, 0, none⟩)] 59) = W at *
      clear hc hz
      go_wp2
      go_loopw [10] (fun iv wr => ∃ (i : Nat) (x : Int) (L : List Int) (a : Int), iv = .int .i64 x ∧ (x = i ∨ (x = -1 ∧ i = 0)) ∧ i ≤ 1000 ∧ L.length = j ∧ (i < j ∨ i = 0) ∧ Hid (shuf i L a = shuf (j - 1) (iota j) s) ∧
          Hid (St b c g L.length (.pointer (some ⟨b, 0, none⟩)) a (fun p => L.getD p 0) w wr)) (fun iv _ => (intOf iv + 1).toNat)
      case atStart => exact ⟨j - 1, (j : Int) - 1, iota j, s, rfl, by omega, by omega, iota_length j, by omega, rfl, by rw [iota_length]; exact HN⟩
      case round =>
        obtain ⟨i, x, L, a, rfl, hx, hi, hL, hij, hsh, hSt⟩ := hrel
        clear HN
        by_cases hpos : 0 < x
        · obtain rfl : x = i := by omega
          have hi1 : 1 ≤ i := by omega
          have hjo := jOf_le a i
          have hp := hSt.out.cc
          have hb1 := hSt.out.cb
          have hf1 := hSt.out.fb
          have hz1 := hSt.out.hb
          have hz2 := hSt.out.hc
          go_wp2_with fail
          refine (draw_j a i hi b c _ hp hb1 hf1 (by omega) hz2).mono ?_
          rintro e w2 ⟨rfl, hbut⟩
          have hS2 := hid (hSt.out.but hbut)
          have g1 := hS2.out.cg i (by omega)
          have g2 := hS2.out.cg (jOf a i) (by omega)
          have k1 := hS2.out.fg i (by omega)
          have k2 := hS2.out.fg (jOf a i) (by omega)
          obtain ⟨q, hq⟩ : ∃ q, q = jOf a i := ⟨_, rfl⟩
          rw [← hq] at g2 k2 hjo ⊢
          have HQ := hid hq
          clear hq hbut hp hb1 hf1 hz1 hz2
          obtain ⟨x1, hx1⟩ : ∃ x1, x1 = L.getD i 0 := ⟨_, rfl⟩
          obtain ⟨x2, hx2⟩ : ∃ x2, x2 = L.getD q 0 := ⟨_, rfl⟩
          rw [← hx1] at g1
          rw [← hx2] at g2
          have HX1 := hid hx1
          have HX2 := hid hx2
          have o1 : ∃ v, (w2.setCell ⟨g, i, none⟩ (.int .i64 x2)).cell? ⟨g, q, none⟩ = some v := by
            by_cases h : i = q
            · subst h; exact ⟨_, World.cell?_setCell_same _ _ _ g1⟩
            · exact ⟨_, (World.cell?_setCell_other _ _ _ _ (by intro k; cases k; exact h rfl)).trans g2⟩
          have o2 : ∃ v, (w2.setCell ⟨g, q, none⟩ (.int .i64 x1)).cell? ⟨g, i, none⟩ = some v := by
            by_cases h : i = q
            · subst h; exact ⟨_, World.cell?_setCell_same _ _ _ g1⟩
            · exact ⟨_, (World.cell?_setCell_other _ _ _ _ (by intro k; cases k; exact h rfl)).trans g1⟩
          obtain ⟨v1, o1⟩ := o1
          obtain ⟨v2, o2⟩ := o2
          have b1 : (i : Int) < (j : Int) := by omega
          have b2 : (q : Int) < (j : Int) := by omega
          have b3 : (0 : Int) ≤ (q : Int) := by omega
          have b4 : (0 : Int) ≤ (i : Int) := by omega
          clear hx1 hx2
          go_wp2_with fail
          go_region
          go_wp2
          go_roundw
          case measure => simp [intOf]
          case rel =>
            have hsw := (hS2.out.swap i q (by omega) (by omega)).drew
            rw [← HX1.out, ← HX2.out] at hsw
            exact ⟨i - 1, (i : Int) - 1, swapL L i q, aOf a i, rfl, by omega, by omega, by rw [swapL_length, hL], by omega, hid (by rw [HQ.out, ← shuf_step i L a hi1]; exact hsh.out), hid hsw⟩
        · obtain rfl : i = 0 := by omega
          have hb1 := hSt.out.cb
          have hf1 := hSt.out.fb
          have hz1 := hSt.out.hb
          have hr1 := hSt.out.cr
          have hrf := hSt.out.fr
          have hgz := hSt.out.hg
          have hbg := hSt.out.hbg
          go_wp2_with fail
          go_region
          go_wp2
          have hcell := fun v => show (wr.setCell ⟨b + 1, 0, none⟩ v).cell? ⟨b + 1, 0, none⟩ = some v from World.cell?_setCell_same _ _ _ hr1
          refine bodyPost_ret (v := .tuple #[.slice (some ⟨g, 0, none⟩) j j, .agg #[.int .u64 a], .int .i64 0]) (by simp [results, Tryd.results27, go_sem, hcell]) rfl ?_
          have hret := hSt.out.ret (.int .u64 a)
          have hs : (L, a) = shuf (j - 1) (iota j) s := hsh.out
          refine ⟨_, by rw [← hs], ⟨some ⟨g, 0, none⟩, j, by rw [← hs, hL], fun p hp => ?_⟩, ?_⟩
          · rw [← hs] at hp ⊢
            exact ⟨g, rfl, by rw [← HBB.out]; omega, hret.2.1, hret.2.2 p hp⟩
          · rw [← HBB.out]; exact hret.1
/-- The memory ahead of the row: the stream's cell b and the result's cell b + 1. -/
def Two (b : Nat) (s : Int) (w w' : World) : Prop :=
  Below b w w' ∧ b + 1 < w'.heap.size ∧ w'.cell? ⟨b, 0, none⟩ = some (.int .u64 s) ∧ w'.frozen? ⟨b, 0, none⟩ = false ∧ w'.cell? ⟨b + 1, 0, none⟩ = some (.int .u64 0) ∧ w'.frozen? ⟨b + 1, 0, none⟩ = false
theorem Two.on {b : Nat} {s : Int} {w w' w'' : World} (h : Two b s w w') (k : Below (b + 2) w' w'') : Two b s w w'' := by
  obtain ⟨h1, h2, h3, h4, h5, h6⟩ := h
  have hs := k.size
  exact ⟨h1.trans (k.mono (by omega)), by omega, (k.cell (p := ⟨b, 0, none⟩) (by show b < b + 2; omega)).trans h3, (k.frozen (p := ⟨b, 0, none⟩) (by show b < b + 2; omega)).trans h4,
    (k.cell (p := ⟨b + 1, 0, none⟩) (by show b + 1 < b + 2; omega)).trans h5, (k.frozen (p := ⟨b + 1, 0, none⟩) (by show b + 1 < b + 2; omega)).trans h6⟩
theorem two_start (s : Int) (w : World) (t t' : TypeId) : Two w.heap.size s w ((w.alloc (.cells #[.int .u64 s] t)).alloc (.cells #[.int .u64 0] t')) :=
  ⟨Joins.below_alloc2 _ _ _, by simp, by simp, by simp, by simp, by simp⟩
theorem own_row {w : World} {base e size n : Nat} {v : Value} {xs : List Value} (h : w.ownsRow base e size v n xs) : ∀ k, v.ownBlock = some k → base ≤ k := by
  intro k hk
  rcases h.2 with ⟨rfl, _⟩ | ⟨g, cap, cur, rfl, hg, _⟩
  · cases hk
  · simp [Value.ownBlock] at hk; omega
/-- What the appends have made. -/
theorem st_grown {b n : Nat} {s : Int} {v : Value} {w w' : World} (h : Two b s w w') (hn : 1 ≤ n) (hown : w'.ownsRow (b + 2) 3 1 v n ((iota n).map (Value.int .i64))) :
    ∃ g cap, v = .slice (some ⟨g, 0, none⟩) n cap ∧ St b (b + 1) g (iota n).length (.int .u64 0) s (fun p => (iota n).getD p 0) w w' := by
  obtain ⟨h1, h2, h3, h4, h5, h6⟩ := h
  rcases hown.2 with ⟨_, h0⟩ | ⟨g, cap, cur, rfl, hg, hh, hr⟩
  · omega
  · have hgs : g < w'.heap.size := by
      by_cases hl : g < w'.heap.size
      · exact hl
      · rw [Array.getElem?_eq_none (by omega)] at hh; cases hh
    refine ⟨g, cap, rfl, h1, h2, h2, hgs, by omega, by omega, by omega, h3, h4, h5, h6, h5, fun p hp => ?_, fun p _ => hown.frozenAt p⟩
    rw [iota_length] at hp
    rw [hown.cellAt p (by omega)]
    simp [iota, hp]

end Go.Proofs.YtadpgndodbfciaaDoor
