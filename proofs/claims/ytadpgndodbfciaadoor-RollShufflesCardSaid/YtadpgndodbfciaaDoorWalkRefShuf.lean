/-
  The walks of the reference's Shuffle.
-/
import Derived.Test.YtadpgndodbfciaaDoorWalkShuf
import Derived.Deep.Cut
namespace Go.Proofs.YtadpgndodbfciaaDoor
open Go.RowKit

set_option maxHeartbeats 3200000 in
theorem refshuf_zero (s : Int) (w : World) : Calls Tryd.prog 26 #[.agg #[.int .u64 s], .int .i64 0] w (ShufIs s 0 w) := by
  go_enter Tryd.func26, Tryd.ntmps26
  go_wp2
  refine wp_loop_rounds 1 ?_
  rw [rounds_succ]
  go_wp2
  refine wp_loop_rounds 1 ?_
  rw [rounds_succ]
  go_wp2
  go_region
  go_wp2
  refine bodyPost_ret (v := .tuple #[.slice none 0 0, .agg #[.int .u64 s], .int .i64 0]) (by simp [results, Tryd.results26, go_sem]) rfl ?_
  exact ⟨_, rfl, ⟨none, 0, rfl, fun j hj => by simp [shuf, iota] at hj⟩, (Joins.below_alloc2 _ _ _).drew⟩

set_option maxHeartbeats 3200000 in
theorem refshuf_pos (s : Int) (n : Nat) (hn1 : 1 ≤ n) (hn : n ≤ 1000) (w : World) : Calls Tryd.prog 26 #[.agg #[.int .u64 s], .int .i64 n] w (ShufIs s n w) := by
  obtain ⟨i0, hi, hz0, hz1, hz2⟩ := info_parts info3
  obtain ⟨b, hb⟩ : ∃ b, b = w.heap.size := ⟨_, rfl⟩
  have HBB := hid hb
  have ht := two_start s w 25 25
  rw [← hb] at ht
  have HT := hid ht
  clear ht
  go_enter Tryd.func26, Tryd.ntmps26
  go_wp2
  simp only [← hb]
  clear hb
  generalize (w.alloc (.cells #[.int .u64 s] 25)).alloc (.cells #[.int .u64 0] 25) = W at *
  go_loopw [7, 8] (fun v iv wr => ∃ k : Nat, k ≤ n ∧ iv = .int .i64 k ∧ wr.ownsRow (b + 2) 3 1 v k ((iota k).map (Value.int .i64)) ∧ Hid (Two b s w wr)) (fun _ iv _ => n - (intOf iv).toNat)
  case atStart => exact ⟨0, Nat.zero_le _, rfl, World.ownsRow_nil _ _ _ _, HT⟩
  case round =>
    obtain ⟨k, hk, rfl, hown, hTwo⟩ := hrel
    clear HT
    by_cases hlt : k < n
    · go_wp2_with (first | (at_builtin; refine wpList_append_own _ rfl _ _ 38 rfl (b + 2) 3 i0 (.int .i64 0) 1 8 Tryd.underlying38 hi hz0 hz1 hz2 rfl (by decide) _ _ _ rfl (hown.alloc _) ⟨wr.heap.size, 0, none⟩ 1 1 [.int .i64 (k : Int)] rfl rfl ?c1 ?c2 ?c3 ?c4 ?c5 ?_))
      case c1 =>
        intro j u hj
        match j, hj with
        | 0, hj => simp at hj; subst hj; simp [Addr.add]
      case c2 => intro u hu; simp at hu; subst hu; rfl
      case c3 => unfold maxLen; omega
      case c4 => omega
      case c5 => have := hTwo.out.2.1; simp; omega
      · intro v' w1 hown' hgrow _
        have hT2 : Two b s w w1 := (hTwo.out.on ((Below.refl _ _).alloc (by have := hTwo.out.2.1; omega) _)).on ((Below.refl _ _).grown hgrow (by have := hTwo.out.2.1; simp; omega) (own_row hown))
        have HT2 := hid hT2
        have e : (iota (k + 1)).map (Value.int .i64) = (iota k).map (Value.int .i64) ++ [.int .i64 (k : Int)] := by rw [iota_snoc]; simp
        rw [← e] at hown'
        clear hT2 hgrow hown e
        go_wp2
        go_roundw
        case rel => exact ⟨k + 1, by omega, by go_num, hown', HT2⟩
        case measure => simp [intOf]; omega
    · obtain rfl : k = n := by omega
      obtain ⟨g, cap, rfl, hst⟩ := st_grown hTwo.out hn1 hown
      have HST := hid hst
      clear hst hown hTwo hlt hi hz0 hz1 hz2
      go_wp2
      go_loopw [9] (fun iv wr => ∃ (i : Nat) (L : List Int) (a : Int), iv = .int .i64 i ∧ i ≤ 1000 ∧ L.length = k ∧ i < k ∧ Hid (shuf i L a = shuf (k - 1) (iota k) s) ∧
          Hid (St b (b + 1) g L.length (.int .u64 0) a (fun p => L.getD p 0) w wr)) (fun iv _ => (intOf iv).toNat)
      case atStart => exact ⟨k - 1, iota k, s, by congr 1; omega, by omega, iota_length k, by omega, rfl, HST⟩
      case round =>
        obtain ⟨i, L, a, rfl, hi, hL, hij, hsh, hSt⟩ := hrel
        clear HST
        have hb1 := hSt.out.cb
        have hf1 := hSt.out.fb
        have hz1 := hSt.out.hb
        by_cases hpos : 1 ≤ i
        · have hjo := jOf_le a i
          go_wp2_with fail
          refine (refbelow_j a i hi _).mono ?_
          rintro e w2 ⟨rfl, hbl⟩
          have hS2 := hid (hSt.out.call hbl)
          have hb2 := hS2.out.cb
          have hf2 := hS2.out.fb
          have hz2 : b < w2.heap.size := by have := hS2.out.hb; omega
          obtain ⟨q, hq⟩ : ∃ q, q = jOf a i := ⟨_, rfl⟩
          rw [← hq] at hjo ⊢
          have HQ := hid hq
          clear hq hbl hb1 hf1 hz1
          go_upto_region 15 with (fail)
          have hS3 : Hid (St b (b + 1) g L.length (.int .u64 0) (aOf a i) (fun p => L.getD p 0) w ((w2.setCell ⟨b, 0, none⟩ (.int .u64 (aOf a i))).alloc (.cells #[.int .u64 (aOf a i)] 25))) :=
            hid ((hS2.out.setB (aOf a i)).alloc _)
          generalize (w2.setCell ⟨b, 0, none⟩ (.int .u64 (aOf a i))).alloc (.cells #[.int .u64 (aOf a i)] 25) = w3 at hS3 ⊢
          have g1 := hS3.out.cg i (by omega)
          have g2 := hS3.out.cg q (by omega)
          have k1 := hS3.out.fg i (by omega)
          have k2 := hS3.out.fg q (by omega)
          obtain ⟨x1, hx1⟩ : ∃ x1, x1 = L.getD i 0 := ⟨_, rfl⟩
          obtain ⟨x2, hx2⟩ : ∃ x2, x2 = L.getD q 0 := ⟨_, rfl⟩
          rw [← hx1] at g1
          rw [← hx2] at g2
          have HX1 := hid hx1
          have HX2 := hid hx2
          have o1 : ∃ v, (w3.setCell ⟨g, i, none⟩ (.int .i64 x2)).cell? ⟨g, q, none⟩ = some v := by
            by_cases h : i = q
            · subst h; exact ⟨_, World.cell?_setCell_same _ _ _ g1⟩
            · exact ⟨_, (World.cell?_setCell_other _ _ _ _ (by intro k; cases k; exact h rfl)).trans g2⟩
          obtain ⟨v1, o1⟩ := o1
          have b1 : (i : Int) < (k : Int) := by omega
          have b2 : (q : Int) < (k : Int) := by omega
          clear hx1 hx2 hb2 hf2 hz2
          go_wp2
          go_roundw
          case measure => simp [intOf]; omega
          case rel =>
            have hsw := hS3.out.swap i q (by omega) (by omega)
            rw [← HX1.out, ← HX2.out] at hsw
            exact ⟨i - 1, swapL L i q, aOf a i, by congr 1; omega, by omega, by rw [swapL_length, hL], by omega, hid (by rw [HQ.out, ← shuf_step i L a hpos]; exact hsh.out), hid hsw⟩
        · obtain rfl : i = 0 := by omega
          have hr1 := hSt.out.cr
          have hrf := hSt.out.fr
          have hgz := hSt.out.hg
          have hbg := hSt.out.hbg
          go_wp2_with fail
          go_region
          go_wp2
          have hcell := fun v => show (wr.setCell ⟨b + 1, 0, none⟩ v).cell? ⟨b + 1, 0, none⟩ = some v from World.cell?_setCell_same _ _ _ hr1
          refine bodyPost_ret (v := .tuple #[.slice (some ⟨g, 0, none⟩) k cap, .agg #[.int .u64 a], .int .i64 0]) (by simp [results, Tryd.results26, go_sem, hcell]) rfl ?_
          have hret := hSt.out.ret (.int .u64 a)
          have hs : (L, a) = shuf (k - 1) (iota k) s := hsh.out
          refine ⟨_, by rw [← hs], ⟨some ⟨g, 0, none⟩, cap, by rw [← hs, hL], fun p hp => ?_⟩, ?_⟩
          · rw [← hs] at hp ⊢
            exact ⟨g, rfl, by rw [← HBB.out]; omega, hret.2.1, hret.2.2 p hp⟩
          · rw [← HBB.out]; exact hret.1

theorem refshuf_yes (s : Int) (n : Nat) (hn : n ≤ 1000) (w : World) : Calls Tryd.prog 26 #[.agg #[.int .u64 s], .int .i64 n] w (ShufIs s n w) := by
  by_cases h : n = 0
  · subst h; exact refshuf_zero s w
  · exact refshuf_pos s n (by omega) hn w
end Go.Proofs.YtadpgndodbfciaaDoor
