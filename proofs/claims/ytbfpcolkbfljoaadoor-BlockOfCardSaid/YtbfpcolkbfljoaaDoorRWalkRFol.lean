/-
  The walk of follow of the reference: the spots behind a spot.
-/
import Derived.Test.YtbfpcolkbfljoaaDoorRWalkFol
namespace Go.Proofs.YtbfpcolkbfljoaaDoor
open Go.RowKit

set_option maxHeartbeats 3200000 in
theorem reffollow_any (W H : Int) (ao : Option Addr) (n cap : Nat) (Z : Nat → Int) (u : Value) (hs : Sized W H) (hn : (n : Int) = W * H) (hz : ∀ i, i < n → 0 ≤ Z i ∧ Z i ≤ 63) (t p s : Int) (h0 : 0 ≤ t) (h1 : t < W * H) (hs0 : 0 ≤ s) (hs3 : s ≤ 3) (w : World) (hT : Tab w) (hI : Ints w ao n Z) :
    Calls Tryd.prog 107 #[rv W H (.slice ao n cap) u, sv t p s] w (Spots (nxt W H Z t s) w) := by
  obtain ⟨i0, hi, hz0, hz1, hz2⟩ := info_parts info31
  have HIN := hid (And.intro hi (And.intro hz0 (And.intro hz1 hz2)))
  clear hi hz0 hz1 hz2
  have hst := bx2_start w 25 50 #[.int .i64 W, .int .i64 H, .slice ao n cap, u] #[.int .i64 t, .int .i64 p, .int .i64 s]
  have HI := hid hI
  have HT := hid hT
  have HST := hid hst
  obtain ⟨b, hb⟩ : ∃ b, bey W H t s = b := ⟨_, rfl⟩
  have HB := hid hb
  have HS := hid hs
  have HZ := hid hz
  have HBI : Hid (0 ≤ b → b < n) := hid (fun h => by rw [hn, ← hb]; exact bey_in hs h0 h1 (by rw [hb]; exact h))
  have HN : Hid (nxt W H Z t s = if 0 ≤ b then fol Z b ((s + 2) % 4) 6 else []) := hid (by unfold nxt; rw [hb])
  obtain ⟨d, hd⟩ : ∃ d, (s + 2) % 4 = d := ⟨_, rfl⟩
  have HD := hid hd
  obtain ⟨L, hL⟩ : ∃ L, nxt W H Z t s = L := ⟨_, rfl⟩
  have HL := hid hL
  rw [hL]
  have HH := hid (And.intro h0 h1)
  obtain ⟨A, hA⟩ : ∃ A, A = w.heap.size := ⟨_, rfl⟩
  have HA := hid hA
  clear hI hT hst hb hs hz hd hL hn h0 h1
  go_enter Tryd.func107, Tryd.ntmps107
  go_wp2_with fail
  refine (refbeyond_any W H t s b HS.out HH.out.1 HH.out.2 hs0 hs3 HB.out _).mono ?_
  rintro r w2 ⟨rfl, hb2⟩
  have H2 := hid (HST.out.stays hb2)
  simp only [← hA] at H2 ⊢
  clear hA hb2 HST
  by_cases hb0 : 0 ≤ b
  · have hF : Hid (FS A #[.int .i64 W, .int .i64 H, .slice ao n cap, u] #[.int .i64 t, .int .i64 p, .int .i64 s] ao n Z (fol Z b d 0) (.slice none 0 0) w w2) :=
      hid ⟨H2.out, World.ownsRow_nil _ _ _ _, HI.out.stays (by rw [← HA.out]; exact H2.out.below), HT.out.stays (by rw [← HA.out]; exact H2.out.below)⟩
    have HLL : Hid (L = fol Z b d 6) := hid (by rw [← HL.out, HN.out, if_pos hb0, HD.out])
    obtain ⟨b0, rfl⟩ := Int.eq_ofNat_of_zero_le hb0
    have hbn : b0 < n := by have := HBI.out hb0; omega
    clear H2
    go_wp2_with fail
    go_loopg [6, 7] 6 (fun gk lst iv wr => ∃ k : Nat, gk + k = 6 ∧ iv = .int .i64 k ∧ Hid (FS A #[.int .i64 W, .int .i64 H, .slice ao n cap, u] #[.int .i64 t, .int .i64 p, .int .i64 s] ao n Z (fol Z b0 d k) lst w wr))
    case atStart => exact ⟨0, rfl, rfl, hF⟩
    case round =>
      obtain ⟨k, hk, rfl, hR⟩ := hrel
      clear hF
      have hk6 : k ≤ 6 := by omega
      have HK := hid hk
      clear hk
      by_cases hlt : k < 6
      · have x2 := cell_of_row wr (A + 1) 2 _ _ _ hR.out.bx.hr
        simp only [List.getElem?_toArray, List.getElem?_cons_zero, List.getElem?_cons_succ] at x2
        go_wp2_with fail
        rw [HD.out]
        refine (other_any k d _).mono ?_
        rintro e w' ⟨rfl, rfl⟩
        clear x2
        by_cases ho : 0 ≤ oth k d
        · have H3 := hR
          clear hR
          have x0 := cell_of_row wr A 0 _ _ _ H3.out.bx.hb
          have x1 := cell_of_row wr A 1 _ _ _ H3.out.bx.hb
          have x2 := cell_of_row wr A 2 _ _ _ H3.out.bx.hb
          have x3 := cell_of_row wr A 3 _ _ _ H3.out.bx.hb
          simp only [List.getElem?_toArray, List.getElem?_cons_zero, List.getElem?_cons_succ] at x0 x1 x2 x3
          obtain ⟨o, hoo⟩ : ∃ o, o = oth k d := ⟨_, rfl⟩
          rw [← hoo]
          have HO := hid hoo
          have HOY := hid ho
          have ho0 : 0 ≤ o := by rw [hoo]; exact ho
          clear hoo ho
          go_wp2_with fail
          have HLI : Hid (Lie n Z b0 k = has (Z b0) k) := hid (by rw [lie_of ⟨by omega, by omega, by omega, by omega⟩, Int.toNat_natCast])
          cases hh : has (Z b0) k
          · refine (reflies_any W H ao n cap Z u b0 k HZ.out false (by rw [HLI.out]; exact hh) _ H3.out.ints).mono ?_
            rintro r w4 ⟨rfl, hb4⟩
            have H4 := hid (H3.out.stays hb4)
            have HH := hid hh
            clear hb4 H3 x0 x1 x2 x3 hh
            go_wp2_with fail
            go_roundg (gk - 1)
            case measure => have := HK.out; omega
            case rel => exact ⟨k + 1, by have := HK.out; omega, by go_num, hid (by rw [fol_no (by rw [Int.toNat_natCast, HH.out]; simp)]; exact H4.out)⟩
          · refine (reflies_any W H ao n cap Z u b0 k HZ.out true (by rw [HLI.out]; exact hh) _ H3.out.ints).mono ?_
            rintro r w4 ⟨rfl, hb4⟩
            have H4 := hid (H3.out.stays hb4)
            have HH := hid hh
            have hlen := fol_len Z b0 d k
            have hz4 : A + 2 ≤ w4.heap.size := heap_lt H4.out.bx.hr
            clear hb4 H3 x0 x1 x2 x3 hh
            go_wp2_with (at_builtin; refine wpList_append_own _ rfl _ _ 105 rfl (A + 2) 50 i0 (.agg #[.int .i64 0, .int .i64 0, .int .i64 0]) 3 24 Tryd.underlying105 HIN.out.1 HIN.out.2.1 HIN.out.2.2.1 HIN.out.2.2.2 rfl (by decide) _ _ _ rfl (H4.out.row.alloc _) ⟨w4.heap.size, 0, none⟩ 1 1 [.int .i64 b0, .int .i64 k, .int .i64 o] rfl rfl ?c1 ?c2 ?c3 ?c4 ?c5 ?_)
            case c1 =>
              intro j u hj
              match j, hj with
              | 0, hj => simp at hj; subst hj; simp [Addr.add]
              | 1, hj => simp at hj; subst hj; simp [Addr.add]
              | 2, hj => simp at hj; subst hj; simp [Addr.add]
            case c2 => intro u hu; simp at hu; rcases hu with rfl | rfl | rfl <;> rfl
            case c3 => unfold maxLen; omega
            case c4 => omega
            case c5 => simp; omega
            intro v' w5 hown' hgrow _
            have H5 := hid (H4.out.app (x := ((b0 : Int), (k : Int), o)) HI.out HT.out HA.out hown' _ hgrow)
            clear hown' hgrow
            go_wp2_with fail
            go_roundg (gk - 1)
            case measure => have := HK.out; omega
            case rel => exact ⟨k + 1, by have := HK.out; omega, by go_num, hid (by rw [fol_yes HOY.out (by rw [Int.toNat_natCast]; exact HH.out), ← HO.out]; exact H5.out)⟩
        · have ho' : oth k d < 0 := by omega
          have H3 := hR
          have HO : Hid (oth k d < 0) := hid ho'
          obtain ⟨o, hoo⟩ : ∃ o, o = oth k d := ⟨_, rfl⟩
          rw [← hoo] at ho' ⊢
          clear hR ho hoo
          go_wp2_with fail
          go_roundg (gk - 1)
          case measure => have := HK.out; omega
          case rel => exact ⟨k + 1, by have := HK.out; omega, by go_num, hid (by rw [fol_no (fun h => by have := HO.out; omega)]; exact H3.out)⟩
      · obtain rfl : k = 6 := by omega
        go_wp2_with fail
        go_ret
        refine ⟨_, rfl, ?_, by rw [← HA.out]; exact hR.out.bx.below⟩
        rw [HLL.out]
        exact row_mono hR.out.row (by rw [← HA.out]; omega)
  · have hb1 : b < 0 := by omega
    have HLN : Hid (L = []) := hid (by rw [← HL.out, HN.out, if_neg hb0])
    clear hb0
    go_wp2_with fail
    go_ret
    refine ⟨_, rfl, ?_, by rw [← HA.out]; exact H2.out.below⟩
    rw [HLN.out]
    exact World.ownsRow_nil _ _ _ _
end Go.Proofs.YtbfpcolkbfljoaaDoor
