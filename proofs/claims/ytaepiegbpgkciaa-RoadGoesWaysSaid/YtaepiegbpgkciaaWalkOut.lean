/-
  The walk of Out of the reference: the sides through which one may leave a tile.
-/
import Derived.Test.YtaepiegbpgkciaaWalkExits
namespace Go.Proofs.Ytaepiegbpgkciaa
open Go.RowKit

set_option maxHeartbeats 6400000 in
theorem out_to (W H : Int) (ao : Option Addr) (n cap : Nat) (Z : Nat → Int) (bo : Option Addr) (bcap : Nat) (Y : Nat → Int) (hs : Sized W H) (hn : (n : Int) = W * H) (hz : ∀ i, i < n → Fine (Z i) (Y i)) (t : Nat) (fr : Int) (ht : t < n) (hf : fr ≤ 3) (w : World) (hI : Ints w ao n Z) (hJ : Ints w bo n Y) :
    Calls Try.prog 58 #[rv W H (.slice ao n cap) (.slice bo n bcap), .int .i64 t, .int .i64 fr] w (Lst1 (outl W H Z Y t fr) w) := by
  obtain ⟨i0, hi, hz0, hz1, hz2⟩ := info_parts info3
  have HIN := hid (And.intro hi (And.intro hz0 (And.intro hz1 hz2)))
  have HE := hid (es_start1 (W := W) (H := H) (cap := cap) (bcap := bcap) hI hJ #[])
  have HI := hid hI
  have HJ := hid hJ
  have HS := hid hs
  have HN := hid hn
  have HZ := hid hz
  have HT := hid ht
  have HFR := hid hf
  obtain ⟨A, hA⟩ : ∃ A, A = w.heap.size := ⟨_, rfl⟩
  have HA := hid hA
  simp only [← hA] at HE
  obtain ⟨L, hL⟩ : ∃ L, outl W H Z Y t fr = L := ⟨_, rfl⟩
  have HL := hid hL
  rw [hL]
  clear hi hz0 hz1 hz2 hI hJ hs hn hz ht hL
  go_enter Try.func58, Try.ntmps58
  go_wp2_with fail
  simp only [← hA]
  clear hA
  generalize World.alloc _ _ = w1 at HE ⊢
  go_loopg [7, 9] 4 (fun gk lst iv wr => ∃ k : Nat, gk + k = 4 ∧ iv = .int .i64 k ∧ Hid (ES A (A + 1) #[] W H ao n cap Z bo n bcap Y (outs W H Z Y t fr k) lst w wr))
  case atStart => exact ⟨0, rfl, rfl, HE⟩
  case round =>
    obtain ⟨k, hk, rfl, hR⟩ := hrel
    clear HE
    have hk4 : k ≤ 4 := by omega
    have HK := hid hk
    obtain ⟨c0, c1, c2, c3, hz0⟩ := hR.out.cells
    clear hk
    by_cases hlt : k < 4
    · by_cases hkf : (k : Int) = fr
      · have e : ((k : Int) != fr) = false := by simp [hkf]
        have HKF := hid hkf
        clear hkf
        go_wp2_with fail
        go_roundg (gk - 1)
        case measure => have := HK.out; omega
        case rel => exact ⟨k + 1, by have := HK.out; omega, by go_num, hid (by rw [outs_no (fun h => h.1 HKF.out)]; exact hR.out)⟩
      · have e : ((k : Int) != fr) = true := by simpa using hkf
        have HKF := hid hkf
        clear hkf
        go_wp2_with fail
        cases hh : leave W H Z Y t k
        · refine (refleave_to W H ao n cap Z bo bcap Y HS.out HN.out HZ.out t k HT.out (by omega) (by omega) false hh _ hR.out.arms hR.out.ways).mono ?_
          rintro r w4 ⟨rfl, hb4⟩
          have H4 := hid (hR.out.stays hb4)
          have HH := hid hh
          clear hb4 hR hh c0 c1 c2 c3 hz0
          go_wp2_with fail
          go_roundg (gk - 1)
          case measure => have := HK.out; omega
          case rel => exact ⟨k + 1, by have := HK.out; omega, by go_num, hid (by rw [outs_no (fun h => by rw [HH.out] at h; cases h.2)]; exact H4.out)⟩
        · refine (refleave_to W H ao n cap Z bo bcap Y HS.out HN.out HZ.out t k HT.out (by omega) (by omega) true hh _ hR.out.arms hR.out.ways).mono ?_
          rintro r w4 ⟨rfl, hb4⟩
          have H4 := hid (hR.out.stays hb4)
          have HH := hid hh
          have hlen := outs_len W H Z Y t fr k
          have hz4 := H4.out.size
          clear hb4 hR hh c0 c1 c2 c3 hz0
          go_wp2_with (at_builtin; refine wpList_append_own _ rfl _ _ 22 rfl (A + 1) 3 i0 (.int .i64 0) 1 8 Try.underlying22 HIN.out.1 HIN.out.2.1 HIN.out.2.2.1 HIN.out.2.2.2 rfl (by decide) _ _ _ rfl (H4.out.row.alloc _) ⟨w4.heap.size, 0, none⟩ 1 1 [.int .i64 k] rfl rfl ?c1 ?c2 ?c3 ?c4 ?c5 ?_)
          case c1 =>
            intro j u hj
            match j, hj with
            | 0, hj => simp at hj; subst hj; simp [Addr.add]
          case c2 => intro u hu; simp at hu; subst hu; rfl
          case c3 => unfold maxLen; omega
          case c4 => omega
          case c5 => simp; omega
          intro v' w5 hown' hgrow _
          have H5 := hid (H4.out.app (x := (k : Int)) hown' _ hgrow HI.out HJ.out HA.out)
          clear hown' hgrow
          go_wp2_with fail
          go_roundg (gk - 1)
          case measure => have := HK.out; omega
          case rel => exact ⟨k + 1, by have := HK.out; omega, by go_num, hid (by rw [outs_yes HKF.out HH.out]; exact H5.out)⟩
    · obtain rfl : k = 4 := by omega
      clear hlt hk4
      have hlen := outs_len W H Z Y t fr 4
      have HO : Hid (L = if outs W H Z Y t fr 4 = [] ∧ 0 ≤ fr ∧ leave W H Z Y t fr = true then [fr] else outs W H Z Y t fr 4) := hid HL.out.symm
      clear HL
      obtain ⟨O, hO⟩ : ∃ O, outs W H Z Y t fr 4 = O := ⟨_, rfl⟩
      rw [hO] at hR HO hlen
      clear hO
      obtain ⟨al, cl, rfl⟩ := row_slice hR.out.row
      by_cases h0 : O.length = 0
      · obtain rfl : O = [] := List.length_eq_zero_iff.1 h0
        clear h0 hlen
        simp only [List.length_nil] at hR ⊢
        by_cases hf0 : 0 ≤ fr
        · have HF0 := hid hf0
          cases hh : leave W H Z Y t fr
          · have HH := hid hh
            clear hh
            go_wp2_with fail
            refine (refleave_to W H ao n cap Z bo bcap Y HS.out HN.out HZ.out t fr HT.out HF0.out HFR.out false HH.out _ hR.out.arms hR.out.ways).mono ?_
            rintro r w4 ⟨rfl, hb4⟩
            have H4 := hid (hR.out.stays hb4)
            clear hb4 hR c0 c1 c2 c3 hz0
            go_wp2_with fail
            go_ret
            obtain rfl : L = [] := by rw [HO.out, if_neg (fun h => by rw [HH.out] at h; cases h.2.2)]
            exact ⟨al, cl, rfl, row_mono H4.out.row (by rw [← HA.out]; omega), by rw [← HA.out]; exact H4.out.below⟩
          · have HH := hid hh
            clear hh
            go_wp2_with fail
            refine (refleave_to W H ao n cap Z bo bcap Y HS.out HN.out HZ.out t fr HT.out HF0.out HFR.out true HH.out _ hR.out.arms hR.out.ways).mono ?_
            rintro r w4 ⟨rfl, hb4⟩
            have H4 := hid (hR.out.stays hb4)
            have hz4 := H4.out.size
            have h40 : w4.ownsRow (A + 1) 3 1 (.slice al 0 cl) 0 [] := H4.out.row
            clear hb4 hR c0 c1 c2 c3 hz0
            go_wp2_with (at_builtin; refine wpList_append_own _ rfl _ _ 22 rfl (A + 1) 3 i0 (.int .i64 0) 1 8 Try.underlying22 HIN.out.1 HIN.out.2.1 HIN.out.2.2.1 HIN.out.2.2.2 rfl (by decide) _ _ _ rfl (h40.alloc _) ⟨w4.heap.size, 0, none⟩ 1 1 [.int .i64 fr] rfl rfl ?c1 ?c2 ?c3 ?c4 ?c5 ?_)
            case c1 =>
              intro j u hj
              match j, hj with
              | 0, hj => simp at hj; subst hj; simp [Addr.add]
            case c2 => intro u hu; simp at hu; subst hu; rfl
            case c3 => unfold maxLen; omega
            case c4 => omega
            case c5 => simp; omega
            intro v' w5 hown' hgrow _
            have H5 := hid (H4.out.app (x := fr) hown' _ hgrow HI.out HJ.out HA.out)
            clear hown' hgrow
            go_wp2_with fail
            go_ret
            obtain rfl : L = [] ++ [fr] := by rw [HO.out, if_pos ⟨trivial, HF0.out, HH.out⟩]; rfl
            obtain ⟨al', cl', rfl⟩ := row_slice H5.out.row
            exact ⟨al', cl', rfl, row_mono H5.out.row (by rw [← HA.out]; omega), by rw [← HA.out]; exact H5.out.below⟩
        · have hf1 : fr < 0 := by omega
          have HF0 := hid hf1
          clear hf0
          go_wp2_with fail
          go_ret
          obtain rfl : L = [] := by rw [HO.out, if_neg (fun h => by have := HF0.out; omega)]
          exact ⟨al, cl, rfl, row_mono hR.out.row (by rw [← HA.out]; omega), by rw [← HA.out]; exact hR.out.below⟩
      · have e0 : ((O.length : Int) == 0) = false := by simp; exact fun h => h0 (by rw [h]; rfl)
        have HO0 : Hid (O ≠ []) := hid (fun h => h0 (by rw [h]; rfl))
        clear h0
        go_wp2_with fail
        go_ret
        obtain rfl : L = O := by rw [HO.out, if_neg (fun h => HO0.out h.1)]
        exact ⟨al, cl, rfl, row_mono hR.out.row (by rw [← HA.out]; omega), by rw [← HA.out]; exact hR.out.below⟩
end Go.Proofs.Ytaepiegbpgkciaa
