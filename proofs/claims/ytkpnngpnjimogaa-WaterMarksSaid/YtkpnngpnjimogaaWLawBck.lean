/-
  The walk of the law on digging and filling.
-/
import Derived.Test.YtkpnngpnjimogaaWLawFil
import Derived.Test.YtkpnngpnjimogaaWLawVal
namespace Go.Proofs.Ytkpnngpnjimogaa
open Go.RowKit

set_option maxRecDepth 20000 in
set_option maxHeartbeats 12800000 in
theorem walk_digsback (Wd Hd : Int) (ao : Option Addr) (n cap : Nat) (Z : Nat → Int) (hn : n ≤ 9223372036854775807) (ko : Option Addr) (m kcap : Nat) (K : Nat → Int) (hm : m ≤ 9223372036854775807) (bo : Option Addr) (q bcap : Nat) (Y : Nat → Int) (hq : q ≤ 9223372036854775807) (t s : Int) (w : World) (hI : Ints w ao n Z) (hK : Ints w ko m K) (hY : Ints w bo q Y) :
    Calls Try.prog 6 #[lv Wd Hd (.slice ao n cap), .agg #[.slice ko m kcap, .slice bo q bcap], .int .i64 t, .int .i64 s] w fun e w' => e = .returned (.bool true) ∧ Below w.heap.size w w' := by
  have HL := hid (LW.start (W := Wd) (H := Hd) (cap := cap) (kcap := kcap) (bcap := bcap) hI hK hY)
  obtain ⟨A, hA⟩ : ∃ A, A = w.heap.size := ⟨_, rfl⟩
  have HA := hid hA
  clear hI hK hY
  by_cases hl : n ≤ 4000 ∧ m ≤ 4000 ∧ q ≤ 4000
  · obtain ⟨m', q', K', Y', c, e, he⟩ := DOut.ex Wd Hd n m q Z K Y t s
    have HJ := hid he
    have HLN := hid hl
    obtain ⟨l1, l2, l3⟩ := hl
    have HS1 : Hid (m ≤ 9223372036854775807) := hid (by omega)
    have HS2 : Hid (q ≤ 9223372036854775807) := hid (by omega)
    by_cases h0 : e = 0
    · subst h0
      obtain ⟨rfl, rfl, rfl, hc, hk⟩ := he.back
      have HK := hid hk
      clear he hk l2
      go_enter Try.func6, Try.ntmps6
      go_upto_region 1 with fail
      generalize World.alloc _ _ = w1 at HL ⊢
      simp only [← hA] at HL ⊢
      have c0 := HL.out.c0
      have c1 := HL.out.c1
      have c2 := HL.out.c2
      have c3 := HL.out.c3
      have c4 := HL.out.c4
      have hz := HL.out.size
      simp only [← HA.out] at c0 c1 c2 c3 c4 hz
      clear hA
      go_upto_region 4 with (first | (go_at_call 14; (refine (large_no Wd Hd ao ko bo n cap m' kcap q' bcap HLN.out _).mono ?_); rintro r wn ⟨rfl, hb⟩; have HLn := hid (HL.out.stays hb); clear hb c0 c1 c2 c3 c4 hz HL; have HL := HLn; clear HLn; have c0 := HL.out.c0; have c1 := HL.out.c1; have c2 := HL.out.c2; have c3 := HL.out.c3; have c4 := HL.out.c4; have hz := HL.out.size; simp only [← HA.out] at c0 c1 c2 c3 c4 hz) | (go_at_call 18; (with_reducible refine (dig_to Wd Hd ao ko bo n cap m' kcap q' bcap Z K Y' l1 l3 t s HJ.out _ HL.out.land HL.out.kinds HL.out.buoys).mono ?_); rintro r wn ⟨xo, xc, yo, yd, rfl, hx, hy, hb⟩; have HX := hid hx; have HY := hid hy; clear hx hy; have HLn := hid (HL.out.stays hb); clear hb c0 c1 c2 c3 c4 hz HL; have HL := HLn; clear HLn; have c0 := HL.out.c0; have c1 := HL.out.c1; have c2 := HL.out.c2; have c3 := HL.out.c3; have c4 := HL.out.c4; have hz := HL.out.size; simp only [← HA.out] at c0 c1 c2 c3 c4 hz))
      have HB1 := hid (BX.start (c := xc) (d := yd) HX.out HY.out)
      have HLn := hid (HL.out.stays (Joins.below_alloc1 wn (.cells #[.slice xo m' xc, .slice yo q' yd] 26)))
      clear c0 c1 c2 c3 c4 hz HL HX HY
      have HL := HLn
      clear HLn
      generalize World.alloc wn _ = wb1 at HL HB1 ⊢
      generalize wn.heap.size = B1 at HB1 ⊢
      have c0 := HL.out.c0
      have c1 := HL.out.c1
      have c2 := HL.out.c2
      have c3 := HL.out.c3
      have c4 := HL.out.c4
      have hz := HL.out.size
      simp only [← HA.out] at c0 c1 c2 c3 c4 hz
      have p10 := cell_of_row _ _ 0 _ _ _ HB1.out.bx
      have p11 := cell_of_row _ _ 1 _ _ _ HB1.out.bx
      have p1z := heap_lt HB1.out.bx
      simp only [List.getElem?_toArray, List.getElem?_cons_zero, List.getElem?_cons_succ] at p10 p11
      go_upto_region 7 with (go_at_call 21; (with_reducible refine (fill_to Wd Hd ao xo yo n cap m' xc q' yd Z K' Y' l1 l3 t HK.out _ HL.out.land HB1.out.ix HB1.out.iy).mono ?_); rintro r wn ⟨vo, vc, zo, zd, rfl, hx, hy, hb⟩; have HX := hid hx; have HY := hid hy; clear hx hy; have HLn := hid (HL.out.stays hb); have HB1n := hid (HB1.out.stays hb); clear hb c0 c1 c2 c3 c4 hz HL HB1 p10 p11 p1z; have HL := HLn; clear HLn; have HB1 := HB1n; clear HB1n; have c0 := HL.out.c0; have c1 := HL.out.c1; have c2 := HL.out.c2; have c3 := HL.out.c3; have c4 := HL.out.c4; have hz := HL.out.size; simp only [← HA.out] at c0 c1 c2 c3 c4 hz; have p10 := cell_of_row _ _ 0 _ _ _ HB1.out.bx; have p11 := cell_of_row _ _ 1 _ _ _ HB1.out.bx; have p1z := heap_lt HB1.out.bx; simp only [List.getElem?_toArray, List.getElem?_cons_zero, List.getElem?_cons_succ] at p10 p11)
      have HB2 := hid (BX.start (c := vc) (d := zd) HX.out HY.out)
      have HLn := hid (HL.out.stays (Joins.below_alloc1 wn (.cells #[.slice vo m' vc, .slice zo q' zd] 26)))
      have HB1n := hid (HB1.out.stays (Joins.below_alloc1 wn (.cells #[.slice vo m' vc, .slice zo q' zd] 26)))
      clear c0 c1 c2 c3 c4 hz HL HX HY HB1 p10 p11 p1z
      have HL := HLn
      clear HLn
      have HB1 := HB1n
      clear HB1n
      generalize World.alloc wn _ = wb2 at HL HB2 HB1 ⊢
      generalize wn.heap.size = B2 at HB2 ⊢
      have c0 := HL.out.c0
      have c1 := HL.out.c1
      have c2 := HL.out.c2
      have c3 := HL.out.c3
      have c4 := HL.out.c4
      have hz := HL.out.size
      simp only [← HA.out] at c0 c1 c2 c3 c4 hz
      have p20 := cell_of_row _ _ 0 _ _ _ HB2.out.bx
      have p21 := cell_of_row _ _ 1 _ _ _ HB2.out.bx
      have p2z := heap_lt HB2.out.bx
      simp only [List.getElem?_toArray, List.getElem?_cons_zero, List.getElem?_cons_succ] at p20 p21
      have p10 := cell_of_row _ _ 0 _ _ _ HB1.out.bx
      have p11 := cell_of_row _ _ 1 _ _ _ HB1.out.bx
      have p1z := heap_lt HB1.out.bx
      simp only [List.getElem?_toArray, List.getElem?_cons_zero, List.getElem?_cons_succ] at p10 p11
      go_wp2_with (first | (go_at_call 20; (with_reducible refine (waters_same vo zo ko bo m' q' vc zd kcap bcap K Y' HS1.out HS2.out _ HB2.out.ix HB2.out.iy HL.out.kinds HL.out.buoys).mono ?_); rintro r wn ⟨rfl, hb⟩; have HLn := hid (HL.out.stays hb); have HB1n := hid (HB1.out.stays hb); have HB2n := hid (HB2.out.stays hb); clear hb c0 c1 c2 c3 c4 hz HL HB1 p10 p11 p1z HB2 p20 p21 p2z; have HL := HLn; clear HLn; have HB1 := HB1n; clear HB1n; have HB2 := HB2n; clear HB2n; have c0 := HL.out.c0; have c1 := HL.out.c1; have c2 := HL.out.c2; have c3 := HL.out.c3; have c4 := HL.out.c4; have hz := HL.out.size; simp only [← HA.out] at c0 c1 c2 c3 c4 hz; have p10 := cell_of_row _ _ 0 _ _ _ HB1.out.bx; have p11 := cell_of_row _ _ 1 _ _ _ HB1.out.bx; have p1z := heap_lt HB1.out.bx; simp only [List.getElem?_toArray, List.getElem?_cons_zero, List.getElem?_cons_succ] at p10 p11; have p20 := cell_of_row _ _ 0 _ _ _ HB2.out.bx; have p21 := cell_of_row _ _ 1 _ _ _ HB2.out.bx; have p2z := heap_lt HB2.out.bx; simp only [List.getElem?_toArray, List.getElem?_cons_zero, List.getElem?_cons_succ] at p20 p21) | (go_at_call 15; (refine (known_any _).mono ?_); rintro r wn ⟨rfl, hb⟩; have HLn := hid (HL.out.stays hb); have HB1n := hid (HB1.out.stays hb); have HB2n := hid (HB2.out.stays hb); clear hb c0 c1 c2 c3 c4 hz HL HB1 p10 p11 p1z HB2 p20 p21 p2z; have HL := HLn; clear HLn; have HB1 := HB1n; clear HB1n; have HB2 := HB2n; clear HB2n; have c0 := HL.out.c0; have c1 := HL.out.c1; have c2 := HL.out.c2; have c3 := HL.out.c3; have c4 := HL.out.c4; have hz := HL.out.size; simp only [← HA.out] at c0 c1 c2 c3 c4 hz; have p10 := cell_of_row _ _ 0 _ _ _ HB1.out.bx; have p11 := cell_of_row _ _ 1 _ _ _ HB1.out.bx; have p1z := heap_lt HB1.out.bx; simp only [List.getElem?_toArray, List.getElem?_cons_zero, List.getElem?_cons_succ] at p10 p11; have p20 := cell_of_row _ _ 0 _ _ _ HB2.out.bx; have p21 := cell_of_row _ _ 1 _ _ _ HB2.out.bx; have p2z := heap_lt HB2.out.bx; simp only [List.getElem?_toArray, List.getElem?_cons_zero, List.getElem?_cons_succ] at p20 p21))
      go_ret
      exact ⟨rfl, HL.out.below⟩
    · obtain ⟨rfl, rfl, rfl, rfl, rfl⟩ : m' = 0 ∧ q' = 0 ∧ K' = (fun _ => 0) ∧ Y' = (fun _ => 0) ∧ c = 0 := by
        rcases he with ⟨_, h, _⟩ | ⟨h, _⟩
        · exact h
        · exact absurd h h0
      have g2 : (e != 0) = true := by simpa using h0
      have g1 : (e == 0) = false := by simpa using h0
      clear he l2 h0
      go_enter Try.func6, Try.ntmps6
      go_upto_region 1 with fail
      generalize World.alloc _ _ = w1 at HL ⊢
      simp only [← hA] at HL ⊢
      have c0 := HL.out.c0
      have c1 := HL.out.c1
      have c2 := HL.out.c2
      have c3 := HL.out.c3
      have c4 := HL.out.c4
      have hz := HL.out.size
      simp only [← HA.out] at c0 c1 c2 c3 c4 hz
      clear hA
      go_upto_region 4 with (first | (go_at_call 14; (refine (large_no Wd Hd ao ko bo n cap m kcap q bcap HLN.out _).mono ?_); rintro r wn ⟨rfl, hb⟩; have HLn := hid (HL.out.stays hb); clear hb c0 c1 c2 c3 c4 hz HL; have HL := HLn; clear HLn; have c0 := HL.out.c0; have c1 := HL.out.c1; have c2 := HL.out.c2; have c3 := HL.out.c3; have c4 := HL.out.c4; have hz := HL.out.size; simp only [← HA.out] at c0 c1 c2 c3 c4 hz) | (go_at_call 18; (with_reducible refine (dig_to Wd Hd ao ko bo n cap m kcap q bcap Z K Y l1 l3 t s HJ.out _ HL.out.land HL.out.kinds HL.out.buoys).mono ?_); rintro r wn ⟨xo, xc, yo, yd, rfl, hx, hy, hb⟩; have HX := hid hx; have HY := hid hy; clear hx hy; have HLn := hid (HL.out.stays hb); clear hb c0 c1 c2 c3 c4 hz HL; have HL := HLn; clear HLn; have c0 := HL.out.c0; have c1 := HL.out.c1; have c2 := HL.out.c2; have c3 := HL.out.c3; have c4 := HL.out.c4; have hz := HL.out.size; simp only [← HA.out] at c0 c1 c2 c3 c4 hz))
      have HB1 := hid (BX.start (c := xc) (d := yd) HX.out HY.out)
      have HLn := hid (HL.out.stays (Joins.below_alloc1 wn (.cells #[.slice xo 0 xc, .slice yo 0 yd] 26)))
      clear c0 c1 c2 c3 c4 hz HL HX HY
      have HL := HLn
      clear HLn
      generalize World.alloc wn _ = wb1 at HL HB1 ⊢
      generalize wn.heap.size = B1 at HB1 ⊢
      have c0 := HL.out.c0
      have c1 := HL.out.c1
      have c2 := HL.out.c2
      have c3 := HL.out.c3
      have c4 := HL.out.c4
      have hz := HL.out.size
      simp only [← HA.out] at c0 c1 c2 c3 c4 hz
      have p10 := cell_of_row _ _ 0 _ _ _ HB1.out.bx
      have p11 := cell_of_row _ _ 1 _ _ _ HB1.out.bx
      have p1z := heap_lt HB1.out.bx
      simp only [List.getElem?_toArray, List.getElem?_cons_zero, List.getElem?_cons_succ] at p10 p11
      go_wp2_with (go_at_call 15; (refine (known_any _).mono ?_); rintro r wn ⟨rfl, hb⟩; have HLn := hid (HL.out.stays hb); have HB1n := hid (HB1.out.stays hb); clear hb c0 c1 c2 c3 c4 hz HL HB1 p10 p11 p1z; have HL := HLn; clear HLn; have HB1 := HB1n; clear HB1n; have c0 := HL.out.c0; have c1 := HL.out.c1; have c2 := HL.out.c2; have c3 := HL.out.c3; have c4 := HL.out.c4; have hz := HL.out.size; simp only [← HA.out] at c0 c1 c2 c3 c4 hz; have p10 := cell_of_row _ _ 0 _ _ _ HB1.out.bx; have p11 := cell_of_row _ _ 1 _ _ _ HB1.out.bx; have p1z := heap_lt HB1.out.bx; simp only [List.getElem?_toArray, List.getElem?_cons_zero, List.getElem?_cons_succ] at p10 p11)
      go_ret
      exact ⟨rfl, HL.out.below⟩
  · have HN : Hid (4000 < n ∨ 4000 < m ∨ 4000 < q) := hid (by omega)
    clear hl
    go_enter Try.func6, Try.ntmps6
    go_upto_region 1 with fail
    generalize World.alloc _ _ = w1 at HL ⊢
    simp only [← hA] at HL ⊢
    have c0 := HL.out.c0
    have c1 := HL.out.c1
    have c2 := HL.out.c2
    have c3 := HL.out.c3
    have c4 := HL.out.c4
    have hz := HL.out.size
    simp only [← HA.out] at c0 c1 c2 c3 c4 hz
    clear hA
    go_wp2_with (first
      | (go_at_call 14; (refine (large_yes Wd Hd ao ko bo n cap m kcap q bcap hn hm hq HN.out _).mono ?_); rintro r wn ⟨rfl, hb⟩; have HLn := hid (HL.out.stays hb); clear hb c0 c1 c2 c3 c4 hz HL; have HL := HLn; clear HLn; have c0 := HL.out.c0; have c1 := HL.out.c1; have c2 := HL.out.c2; have c3 := HL.out.c3; have c4 := HL.out.c4; have hz := HL.out.size; simp only [← HA.out] at c0 c1 c2 c3 c4 hz)
      | (go_at_call 15; (refine (known_any _).mono ?_); rintro r wn ⟨rfl, hb⟩; have HLn := hid (HL.out.stays hb); clear hb c0 c1 c2 c3 c4 hz HL; have HL := HLn; clear HLn; have c0 := HL.out.c0; have c1 := HL.out.c1; have c2 := HL.out.c2; have c3 := HL.out.c3; have c4 := HL.out.c4; have hz := HL.out.size; simp only [← HA.out] at c0 c1 c2 c3 c4 hz))
    go_ret
    exact ⟨rfl, HL.out.below⟩
end Go.Proofs.Ytkpnngpnjimogaa
