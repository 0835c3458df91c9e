/-
  The walk of the reference's ValidateKinds.
-/
import Derived.Test.YtnhkblkijiipeaaFVK
namespace Go.Proofs.Ytnhkblkijiipeaa
open Go.RowKit

set_option maxRecDepth 100000 in
set_option maxHeartbeats 12800000 in
theorem rvkinds_any (ko : Option Addr) (m kc : Nat) (K : Nat → Kd) (hcap : m ≤ kc) (hs : Small m K) (w : World) (hK : Kds w ko m K) :
    Calls Try.prog 36 #[.slice ko m kc] w fun e w' => e = .returned (.int .i64 (KErr m K)) ∧ Below w.heap.size w w' := by
  by_cases hL : 16 < m
  · have hL' : (16 : Int) < (m : Int) := by omega
    have HR : Hid (KErr m K = 4) := hid (by unfold KErr; rw [if_pos hL])
    rw [HR.out]
    clear hK
    go_enter Try.func36, Try.ntmps36
    go_wp2_with fail
    go_ret
    exact ⟨rfl, Below.refl _ _⟩
  have hL' : ¬ (16 : Int) < (m : Int) := by omega
  obtain ⟨r, hr⟩ : ∃ r, KErr m K = r := ⟨_, rfl⟩
  have HV : Hid ((if anyP m (fun i => !okK (K i)) = true then (1 : Int) else if anyP m (dupK K) = true then 3 else 0) = r) := hid (by rw [← hr]; unfold KErr; rw [if_neg hL])
  obtain ⟨B, hB⟩ : ∃ B, w.heap.size = B := ⟨_, rfl⟩
  have HBW := hid hB
  have HC : Hid (∀ wr, Below B w wr → Kds wr ko m K) := hid (fun wr hb => hK.stays (by rw [hB]; exact hb))
  have HSZ := hid hs
  rw [hr, hB]
  clear hr hB hK hs
  have hm2 : m ≤ 16 := by omega
  clear hL
  go_enter Try.func36, Try.ntmps36
  go_wp2_with fail
  go_loopw [14] (fun iv wr => ∃ i : Nat, i ≤ m ∧ iv = .int .i64 i ∧ Hid ((∀ j, j < i → (!okK (K j)) = false) ∧ Below B w wr)) (fun iv _ => m - (intOf iv).toNat)
  case atStart => exact ⟨0, Nat.zero_le _, rfl, hid ⟨fun j hj => absurd hj (Nat.not_lt_zero _), Below.refl _ _⟩⟩
  case round =>
    obtain ⟨i, hi, rfl, HI⟩ := hrel
    by_cases hlt : i < m
    · obtain ⟨b, off, e, hbl, a0, a1, a2⟩ := kat (HC.out wr HI.out.2) hlt
      subst e
      have hBs : B ≤ wr.heap.size := by rw [← HBW.out]; exact HI.out.2.size
      obtain ⟨x, hx⟩ : ∃ x, K i = x := ⟨_, rfl⟩
      obtain ⟨q, hq⟩ : ∃ q, okK x = q := ⟨_, rfl⟩
      have hb1 : Below wr.heap.size wr (wr.alloc (.cells #[.string x.nm, .slice x.ta x.tn x.tc, .slice x.ma x.mn x.mc] 40)) := (Below.refl _ _).alloc (Nat.le_refl _) _
      have HKA : Hid (KdAt (wr.alloc (.cells #[.string x.nm, .slice x.ta x.tn x.tc, .slice x.ma x.mn x.mc] 40)) x) := hid (by rw [← hx]; exact (((HC.out wr HI.out.2) i hlt).2).stays (by rw [hx]; exact hb1))
      have HRR := hid (fun W h => rright_any x (by rw [← hx]; exact HSZ.out.tn i hlt) (by rw [← hx]; exact HSZ.out.mn i hlt) (by rw [← hx]; exact HSZ.out.nm i hlt) q hq W h)
      have HB1 := hid (HI.out.2.trans (hb1.mono hBs))
      have HI0 := hid HI.out.1
      have HZ : Hid (B ≤ (wr.alloc (.cells #[.string x.nm, .slice x.ta x.tn x.tc, .slice x.ma x.mn x.mc] 40)).heap.size) := hid (by rw [World.size_alloc]; omega)
      rw [hx] at a0 a1 a2
      have HX := hid hx
      have HQ := hid hq
      clear hx hq hb1 HI hBs
      go_wp2_with fail
      refine (HRR.out _ HKA.out).mono ?_
      rintro e w3 ⟨rfl, hb3⟩
      have HB3 := hid (HB1.out.trans (hb3.mono HZ.out))
      clear hb3
      cases q
      · have HR : Hid (r = 1) := hid (by rw [← HV.out, if_pos (anyP_yes hlt (show (!okK (K i)) = true by rw [HX.out, HQ.out]; rfl))])
        go_wp2_with fail
        go_ret
        exact ⟨by rw [HR.out]; rfl, HB3.out⟩
      · have HD := hid (snoc_no HI0.out (show (!okK (K i)) = false by rw [HX.out, HQ.out]; rfl))
        go_wp2_with fail
        go_roundw
        case rel => exact ⟨i + 1, by omega, by go_num, hid ⟨HD.out, HB3.out⟩⟩
        case measure => simp [intOf]; omega
    · obtain rfl : m = i := by omega
      have HV2 : Hid ((if anyP m (dupK K) = true then (3 : Int) else 0) = r) := hid (by have h := HV.out; rwa [anyP_no (p := fun i => !okK (K i)) HI.out.1, if_neg (by simp)] at h)
      have HB0 := hid HI.out.2
      clear HV HI hlt hi
      go_wp2_with fail
      go_loopw [24] (fun iv wr => ∃ i : Nat, i ≤ m ∧ iv = .int .i64 i ∧ Hid ((∀ j, j < i → dupK K j = false) ∧ Below B w wr)) (fun iv _ => m - (intOf iv).toNat)
      case atStart => exact ⟨0, Nat.zero_le _, rfl, hid ⟨fun j hj => absurd hj (Nat.not_lt_zero _), HB0.out⟩⟩
      case round =>
        clear HB0
        obtain ⟨i, hi, rfl, HI⟩ := hrel
        by_cases hlt : i < m
        · obtain ⟨b, off, e, hbl, a0, a1, a2⟩ := kat (HC.out wr HI.out.2) hlt
          subst e
          have hBs : B ≤ wr.heap.size := by rw [← HBW.out]; exact HI.out.2.size
          obtain ⟨x, hx⟩ : ∃ x, K i = x := ⟨_, rfl⟩
          rw [hx] at a0 a1 a2
          have HX := hid hx
          have hb1 : Below wr.heap.size wr (wr.alloc (.cells #[.string x.nm, .slice x.ta x.tn x.tc, .slice x.ma x.mn x.mc] 40)) := (Below.refl _ _).alloc (Nat.le_refl _) _
          have HNN := hid (heap_new wr (.cells #[.string x.nm, .slice x.ta x.tn x.tc, .slice x.ma x.mn x.mc] 40))
          have HB1 := hid (HI.out.2.trans (hb1.mono hBs))
          have HI0 := hid HI.out.1
          clear hx hb1 HI
          obtain ⟨X, hX⟩ : ∃ X, wr.heap.size = X := ⟨_, rfl⟩
          rw [hX] at HNN
          have him : (i : Int) ≤ (kc : Int) := by omega
          go_upto_region 12 with fail
          clear a0 a1 a2 hbl hX hBs
          generalize wr.alloc _ = w4 at HNN HB1 ⊢
          go_wp2_with fail
          go_loopw [33] (fun iv wr => ∃ k : Nat, k ≤ i ∧ iv = .int .i64 k ∧ Hid ((∀ j, j < k → decide ((K i).nm = (K j).nm) = false) ∧ Below B w wr ∧ wr.heap[X]? = some (.cells #[.string x.nm, .slice x.ta x.tn x.tc, .slice x.ma x.mn x.mc] 40 (0, 0)))) (fun iv _ => i - (intOf iv).toNat)
          case atStart => exact ⟨0, Nat.zero_le _, rfl, hid ⟨fun j hj => absurd hj (Nat.not_lt_zero _), HB1.out, HNN.out⟩⟩
          case round =>
            clear HNN HB1
            obtain ⟨k, hk, rfl, HK⟩ := hrel
            by_cases hlk : k < i
            · obtain ⟨b', off', e', _, z0, z1, z2⟩ := kat (HC.out wr HK.out.2.1) (j := k) (by omega)
              cases e'
              have hBs : B ≤ wr.heap.size := by rw [← HBW.out]; exact HK.out.2.1.size
              obtain ⟨y, hy⟩ : ∃ y, K k = y := ⟨_, rfl⟩
              rw [hy] at z0 z1 z2
              have HY := hid hy
              have hb1 : Below wr.heap.size wr (wr.alloc (.cells #[.string y.nm, .slice y.ta y.tn y.tc, .slice y.ma y.mn y.mc] 40)) := (Below.refl _ _).alloc (Nat.le_refl _) _
              have HB1 := hid (HK.out.2.1.trans (hb1.mono hBs))
              have HNN := hid ((hb1.block _ (heap_lt HK.out.2.2)).trans HK.out.2.2)
              have HNY := hid (heap_new wr (.cells #[.string y.nm, .slice y.ta y.tn y.tc, .slice y.ma y.mn y.mc] 40))
              have HK0 := hid HK.out.1
              clear hy hb1 HK hBs
              have hkm : (k : Int) < (i : Int) := by omega
              obtain ⟨Y, hY⟩ : ∃ Y, wr.heap.size = Y := ⟨_, rfl⟩
              rw [hY] at HNY
              go_upto_region 15 with fail
              clear z0 z1 z2 hY
              generalize wr.alloc _ = w5 at HNN HNY HB1 ⊢
              have c0 := cell_of_row _ X 0 _ _ _ HNN.out
              have d0 := cell_of_row _ Y 0 _ _ _ HNY.out
              simp only [List.getElem?_toArray, List.getElem?_cons_zero] at c0 d0
              obtain ⟨s, hs⟩ : ∃ s, x.nm = s := ⟨_, rfl⟩
              obtain ⟨t, ht⟩ : ∃ t, y.nm = t := ⟨_, rfl⟩
              rw [hs] at c0
              rw [ht] at d0
              have HSS := hid hs
              have HTT := hid ht
              clear hs ht
              by_cases hst : t = s
              · have HR : Hid (r = 3) := hid (by rw [← HV2.out, if_pos (anyP_yes hlt (show dupK K i = true from anyP_yes hlk (by rw [HX.out, HY.out, HSS.out, HTT.out, hst]; simp)))])
                subst hst
                go_wp2_with fail
                go_ret
                exact ⟨by rw [HR.out]; rfl, HB1.out⟩
              · have hb := str_ne hst
                have HD := hid (snoc_no HK0.out (show decide ((K i).nm = (K k).nm) = false by rw [HX.out, HY.out, HSS.out, HTT.out]; exact decide_eq_false (Ne.symm hst)))
                go_wp2_with fail
                go_roundw
                case rel => exact ⟨k + 1, by omega, by go_num, hid ⟨HD.out, HB1.out, HNN.out⟩⟩
                case measure => simp [intOf]; omega
            · obtain rfl : k = i := by omega
              have HD := hid (snoc_no HI0.out (show dupK K k = false from anyP_no HK.out.1))
              have HKB := hid HK.out.2.1
              go_wp2_with fail
              go_roundw
              case rel => exact ⟨k + 1, by omega, by go_num, hid ⟨HD.out, HKB.out⟩⟩
              case measure => simp [intOf]; omega
        · obtain rfl : m = i := by omega
          have HR : Hid (r = 0) := hid (by rw [← HV2.out, if_neg (by rw [anyP_no HI.out.1]; simp)])
          go_wp2_with fail
          go_ret
          exact ⟨by rw [HR.out]; rfl, HI.out.2⟩
end Go.Proofs.Ytnhkblkijiipeaa
