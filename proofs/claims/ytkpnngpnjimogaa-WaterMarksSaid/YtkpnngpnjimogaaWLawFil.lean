/-
  The walk of the law on Fill.
-/
import Derived.Test.YtkpnngpnjimogaaWLawDig
import Derived.Test.YtkpnngpnjimogaaWLawVal
namespace Go.Proofs.Ytkpnngpnjimogaa
open Go.RowKit

set_option maxRecDepth 20000 in
set_option maxHeartbeats 12800000 in
theorem walk_fills (Wd Hd : Int) (ao : Option Addr) (n cap : Nat) (Z : Nat → Int) (hn : n ≤ 9223372036854775807) (ko : Option Addr) (m kcap : Nat) (K : Nat → Int) (hm : m ≤ 9223372036854775807) (bo : Option Addr) (q bcap : Nat) (Y : Nat → Int) (hq : q ≤ 9223372036854775807) (t : Int) (w : World) (hI : Ints w ao n Z) (hK : Ints w ko m K) (hY : Ints w bo q Y) :
    Calls Try.prog 5 #[lv Wd Hd (.slice ao n cap), .agg #[.slice ko m kcap, .slice bo q bcap], .int .i64 t] w fun e w' => e = .returned (.bool true) ∧ Below w.heap.size w w' := by
  have HL := hid (LW.start (W := Wd) (H := Hd) (cap := cap) (kcap := kcap) (bcap := bcap) hI hK hY)
  obtain ⟨A, hA⟩ : ∃ A, A = w.heap.size := ⟨_, rfl⟩
  have HA := hid hA
  clear hI hK hY
  by_cases hl : n ≤ 4000 ∧ m ≤ 4000 ∧ q ≤ 4000
  · obtain ⟨m', q', K', Y', c, e, he⟩ := LOut.ex Wd Hd n m q Z K Y t
    have HJ := hid he
    have HLN := hid hl
    obtain ⟨l1, l2, l3⟩ := hl
    obtain ⟨s1, s2⟩ := he.small l2 l3
    have HS1 : Hid (m' ≤ 9223372036854775807) := hid (by omega)
    have HS2 : Hid (q' ≤ 9223372036854775807) := hid (by omega)
    by_cases h0 : e = 0
    · subst h0
      have HWE := hid he.right
      clear he l2 s1
      go_enter Try.func5, Try.ntmps5
      go_upto_region 1 with fail
      generalize World.alloc _ _ = w1 at HL ⊢
      simp only [← hA] at HL ⊢
      have c0 := HL.out.c0
      have c1 := HL.out.c1
      have c2 := HL.out.c2
      have c3 := HL.out.c3
      have c4 := HL.out.c4
      have hz := HL.out.size
      simp only [← HA.out] at c0 c1 c2 c3 c4 hz
      clear hA
      go_upto_region 4 with (first | (go_at_call 14; (refine (large_no Wd Hd ao ko bo n cap m kcap q bcap HLN.out _).mono ?_); rintro r wn ⟨rfl, hb⟩; have HLn := hid (HL.out.stays hb); clear hb c0 c1 c2 c3 c4 hz HL; have HL := HLn; clear HLn; have c0 := HL.out.c0; have c1 := HL.out.c1; have c2 := HL.out.c2; have c3 := HL.out.c3; have c4 := HL.out.c4; have hz := HL.out.size; simp only [← HA.out] at c0 c1 c2 c3 c4 hz) | (go_at_call 21; (with_reducible refine (fill_to Wd Hd ao ko bo n cap m kcap q bcap Z K Y l1 l3 t HJ.out _ HL.out.land HL.out.kinds HL.out.buoys).mono ?_); rintro r wn ⟨xo, xc, yo, yd, rfl, hx, hy, hb⟩; have HX := hid hx; have HY := hid hy; clear hx hy; have HLn := hid (HL.out.stays hb); clear hb c0 c1 c2 c3 c4 hz HL; have HL := HLn; clear HLn; have c0 := HL.out.c0; have c1 := HL.out.c1; have c2 := HL.out.c2; have c3 := HL.out.c3; have c4 := HL.out.c4; have hz := HL.out.size; simp only [← HA.out] at c0 c1 c2 c3 c4 hz))
      have HB1 := hid (BX.start (c := xc) (d := yd) HX.out HY.out)
      have HLn := hid (HL.out.stays (Joins.below_alloc1 wn (.cells #[.slice xo m' xc, .slice yo q' yd] 26)))
      clear c0 c1 c2 c3 c4 hz HL HX HY
      have HL := HLn
      clear HLn
      generalize World.alloc wn _ = wb1 at HL HB1 ⊢
      generalize wn.heap.size = B1 at HB1 ⊢
      have c0 := HL.out.c0
      have c1 := HL.out.c1
      have c2 := HL.out.c2
      have c3 := HL.out.c3
      have c4 := HL.out.c4
      have hz := HL.out.size
      simp only [← HA.out] at c0 c1 c2 c3 c4 hz
      have p10 := cell_of_row _ _ 0 _ _ _ HB1.out.bx
      have p11 := cell_of_row _ _ 1 _ _ _ HB1.out.bx
      have p1z := heap_lt HB1.out.bx
      simp only [List.getElem?_toArray, List.getElem?_cons_zero, List.getElem?_cons_succ] at p10 p11
      go_upto_region 5 with (go_at_call 22; (with_reducible refine (reffill_to Wd Hd ao ko bo n cap m kcap q bcap Z K Y l1 l3 t HJ.out _ HL.out.land HL.out.kinds HL.out.buoys).mono ?_); rintro r wn ⟨vo, vc, zo, zd, rfl, hx, hy, hb⟩; have HX := hid hx; have HY := hid hy; clear hx hy; have HLn := hid (HL.out.stays hb); have HB1n := hid (HB1.out.stays hb); clear hb c0 c1 c2 c3 c4 hz HL HB1 p10 p11 p1z; have HL := HLn; clear HLn; have HB1 := HB1n; clear HB1n; have c0 := HL.out.c0; have c1 := HL.out.c1; have c2 := HL.out.c2; have c3 := HL.out.c3; have c4 := HL.out.c4; have hz := HL.out.size; simp only [← HA.out] at c0 c1 c2 c3 c4 hz; have p10 := cell_of_row _ _ 0 _ _ _ HB1.out.bx; have p11 := cell_of_row _ _ 1 _ _ _ HB1.out.bx; have p1z := heap_lt HB1.out.bx; simp only [List.getElem?_toArray, List.getElem?_cons_zero, List.getElem?_cons_succ] at p10 p11)
      have HB2 := hid (BX.start (c := vc) (d := zd) HX.out HY.out)
      have HLn := hid (HL.out.stays (Joins.below_alloc1 wn (.cells #[.slice vo m' vc, .slice zo q' zd] 26)))
      have HB1n := hid (HB1.out.stays (Joins.below_alloc1 wn (.cells #[.slice vo m' vc, .slice zo q' zd] 26)))
      clear c0 c1 c2 c3 c4 hz HL HX HY HB1 p10 p11 p1z
      have HL := HLn
      clear HLn
      have HB1 := HB1n
      clear HB1n
      generalize World.alloc wn _ = wb2 at HL HB2 HB1 ⊢
      generalize wn.heap.size = B2 at HB2 ⊢
      have c0 := HL.out.c0
      have c1 := HL.out.c1
      have c2 := HL.out.c2
      have c3 := HL.out.c3
      have c4 := HL.out.c4
      have hz := HL.out.size
      simp only [← HA.out] at c0 c1 c2 c3 c4 hz
      have p20 := cell_of_row _ _ 0 _ _ _ HB2.out.bx
      have p21 := cell_of_row _ _ 1 _ _ _ HB2.out.bx
      have p2z := heap_lt HB2.out.bx
      simp only [List.getElem?_toArray, List.getElem?_cons_zero, List.getElem?_cons_succ] at p20 p21
      have p10 := cell_of_row _ _ 0 _ _ _ HB1.out.bx
      have p11 := cell_of_row _ _ 1 _ _ _ HB1.out.bx
      have p1z := heap_lt HB1.out.bx
      simp only [List.getElem?_toArray, List.getElem?_cons_zero, List.getElem?_cons_succ] at p10 p11
      go_wp2_with (first | (go_at_call 20; (with_reducible refine (waters_same xo yo vo zo m' q' xc yd vc zd K' Y' HS1.out HS2.out _ HB1.out.ix HB1.out.iy HB2.out.ix HB2.out.iy).mono ?_); rintro r wn ⟨rfl, hb⟩; have HLn := hid (HL.out.stays hb); have HB1n := hid (HB1.out.stays hb); have HB2n := hid (HB2.out.stays hb); clear hb c0 c1 c2 c3 c4 hz HL HB1 p10 p11 p1z HB2 p20 p21 p2z; have HL := HLn; clear HLn; have HB1 := HB1n; clear HB1n; have HB2 := HB2n; clear HB2n; have c0 := HL.out.c0; have c1 := HL.out.c1; have c2 := HL.out.c2; have c3 := HL.out.c3; have c4 := HL.out.c4; have hz := HL.out.size; simp only [← HA.out] at c0 c1 c2 c3 c4 hz; have p10 := cell_of_row _ _ 0 _ _ _ HB1.out.bx; have p11 := cell_of_row _ _ 1 _ _ _ HB1.out.bx; have p1z := heap_lt HB1.out.bx; simp only [List.getElem?_toArray, List.getElem?_cons_zero, List.getElem?_cons_succ] at p10 p11; have p20 := cell_of_row _ _ 0 _ _ _ HB2.out.bx; have p21 := cell_of_row _ _ 1 _ _ _ HB2.out.bx; have p2z := heap_lt HB2.out.bx; simp only [List.getElem?_toArray, List.getElem?_cons_zero, List.getElem?_cons_succ] at p20 p21) | (go_at_call 16; (with_reducible refine (wvalidate_to Wd Hd ao xo yo n cap m' xc q' yd Z K' Y' l1 s2 0 HWE.out _ HL.out.land HB1.out.ix HB1.out.iy).mono ?_); rintro r wn ⟨rfl, hb⟩; have HLn := hid (HL.out.stays hb); have HB1n := hid (HB1.out.stays hb); have HB2n := hid (HB2.out.stays hb); clear hb c0 c1 c2 c3 c4 hz HL HB1 p10 p11 p1z HB2 p20 p21 p2z; have HL := HLn; clear HLn; have HB1 := HB1n; clear HB1n; have HB2 := HB2n; clear HB2n; have c0 := HL.out.c0; have c1 := HL.out.c1; have c2 := HL.out.c2; have c3 := HL.out.c3; have c4 := HL.out.c4; have hz := HL.out.size; simp only [← HA.out] at c0 c1 c2 c3 c4 hz; have p10 := cell_of_row _ _ 0 _ _ _ HB1.out.bx; have p11 := cell_of_row _ _ 1 _ _ _ HB1.out.bx; have p1z := heap_lt HB1.out.bx; simp only [List.getElem?_toArray, List.getElem?_cons_zero, List.getElem?_cons_succ] at p10 p11; have p20 := cell_of_row _ _ 0 _ _ _ HB2.out.bx; have p21 := cell_of_row _ _ 1 _ _ _ HB2.out.bx; have p2z := heap_lt HB2.out.bx; simp only [List.getElem?_toArray, List.getElem?_cons_zero, List.getElem?_cons_succ] at p20 p21) | (go_at_call 15; (refine (known_any _).mono ?_); rintro r wn ⟨rfl, hb⟩; have HLn := hid (HL.out.stays hb); have HB1n := hid (HB1.out.stays hb); have HB2n := hid (HB2.out.stays hb); clear hb c0 c1 c2 c3 c4 hz HL HB1 p10 p11 p1z HB2 p20 p21 p2z; have HL := HLn; clear HLn; have HB1 := HB1n; clear HB1n; have HB2 := HB2n; clear HB2n; have c0 := HL.out.c0; have c1 := HL.out.c1; have c2 := HL.out.c2; have c3 := HL.out.c3; have c4 := HL.out.c4; have hz := HL.out.size; simp only [← HA.out] at c0 c1 c2 c3 c4 hz; have p10 := cell_of_row _ _ 0 _ _ _ HB1.out.bx; have p11 := cell_of_row _ _ 1 _ _ _ HB1.out.bx; have p1z := heap_lt HB1.out.bx; simp only [List.getElem?_toArray, List.getElem?_cons_zero, List.getElem?_cons_succ] at p10 p11; have p20 := cell_of_row _ _ 0 _ _ _ HB2.out.bx; have p21 := cell_of_row _ _ 1 _ _ _ HB2.out.bx; have p2z := heap_lt HB2.out.bx; simp only [List.getElem?_toArray, List.getElem?_cons_zero, List.getElem?_cons_succ] at p20 p21))
      go_ret
      exact ⟨rfl, HL.out.below⟩
    · have g2 : (e != 0) = true := by simpa using h0
      have g1 : (e == 0) = false := by simpa using h0
      clear he l2 s1 h0
      go_enter Try.func5, Try.ntmps5
      go_upto_region 1 with fail
      generalize World.alloc _ _ = w1 at HL ⊢
      simp only [← hA] at HL ⊢
      have c0 := HL.out.c0
      have c1 := HL.out.c1
      have c2 := HL.out.c2
      have c3 := HL.out.c3
      have c4 := HL.out.c4
      have hz := HL.out.size
      simp only [← HA.out] at c0 c1 c2 c3 c4 hz
      clear hA
      go_upto_region 4 with (first | (go_at_call 14; (refine (large_no Wd Hd ao ko bo n cap m kcap q bcap HLN.out _).mono ?_); rintro r wn ⟨rfl, hb⟩; have HLn := hid (HL.out.stays hb); clear hb c0 c1 c2 c3 c4 hz HL; have HL := HLn; clear HLn; have c0 := HL.out.c0; have c1 := HL.out.c1; have c2 := HL.out.c2; have c3 := HL.out.c3; have c4 := HL.out.c4; have hz := HL.out.size; simp only [← HA.out] at c0 c1 c2 c3 c4 hz) | (go_at_call 21; (with_reducible refine (fill_to Wd Hd ao ko bo n cap m kcap q bcap Z K Y l1 l3 t HJ.out _ HL.out.land HL.out.kinds HL.out.buoys).mono ?_); rintro r wn ⟨xo, xc, yo, yd, rfl, hx, hy, hb⟩; have HX := hid hx; have HY := hid hy; clear hx hy; have HLn := hid (HL.out.stays hb); clear hb c0 c1 c2 c3 c4 hz HL; have HL := HLn; clear HLn; have c0 := HL.out.c0; have c1 := HL.out.c1; have c2 := HL.out.c2; have c3 := HL.out.c3; have c4 := HL.out.c4; have hz := HL.out.size; simp only [← HA.out] at c0 c1 c2 c3 c4 hz))
      have HB1 := hid (BX.start (c := xc) (d := yd) HX.out HY.out)
      have HLn := hid (HL.out.stays (Joins.below_alloc1 wn (.cells #[.slice xo m' xc, .slice yo q' yd] 26)))
      clear c0 c1 c2 c3 c4 hz HL HX HY
      have HL := HLn
      clear HLn
      generalize World.alloc wn _ = wb1 at HL HB1 ⊢
      generalize wn.heap.size = B1 at HB1 ⊢
      have c0 := HL.out.c0
      have c1 := HL.out.c1
      have c2 := HL.out.c2
      have c3 := HL.out.c3
      have c4 := HL.out.c4
      have hz := HL.out.size
      simp only [← HA.out] at c0 c1 c2 c3 c4 hz
      have p10 := cell_of_row _ _ 0 _ _ _ HB1.out.bx
      have p11 := cell_of_row _ _ 1 _ _ _ HB1.out.bx
      have p1z := heap_lt HB1.out.bx
      simp only [List.getElem?_toArray, List.getElem?_cons_zero, List.getElem?_cons_succ] at p10 p11
      go_upto_region 5 with (go_at_call 22; (with_reducible refine (reffill_to Wd Hd ao ko bo n cap m kcap q bcap Z K Y l1 l3 t HJ.out _ HL.out.land HL.out.kinds HL.out.buoys).mono ?_); rintro r wn ⟨vo, vc, zo, zd, rfl, hx, hy, hb⟩; have HX := hid hx; have HY := hid hy; clear hx hy; have HLn := hid (HL.out.stays hb); have HB1n := hid (HB1.out.stays hb); clear hb c0 c1 c2 c3 c4 hz HL HB1 p10 p11 p1z; have HL := HLn; clear HLn; have HB1 := HB1n; clear HB1n; have c0 := HL.out.c0; have c1 := HL.out.c1; have c2 := HL.out.c2; have c3 := HL.out.c3; have c4 := HL.out.c4; have hz := HL.out.size; simp only [← HA.out] at c0 c1 c2 c3 c4 hz; have p10 := cell_of_row _ _ 0 _ _ _ HB1.out.bx; have p11 := cell_of_row _ _ 1 _ _ _ HB1.out.bx; have p1z := heap_lt HB1.out.bx; simp only [List.getElem?_toArray, List.getElem?_cons_zero, List.getElem?_cons_succ] at p10 p11)
      have HB2 := hid (BX.start (c := vc) (d := zd) HX.out HY.out)
      have HLn := hid (HL.out.stays (Joins.below_alloc1 wn (.cells #[.slice vo m' vc, .slice zo q' zd] 26)))
      have HB1n := hid (HB1.out.stays (Joins.below_alloc1 wn (.cells #[.slice vo m' vc, .slice zo q' zd] 26)))
      clear c0 c1 c2 c3 c4 hz HL HX HY HB1 p10 p11 p1z
      have HL := HLn
      clear HLn
      have HB1 := HB1n
      clear HB1n
      generalize World.alloc wn _ = wb2 at HL HB2 HB1 ⊢
      generalize wn.heap.size = B2 at HB2 ⊢
      have c0 := HL.out.c0
      have c1 := HL.out.c1
      have c2 := HL.out.c2
      have c3 := HL.out.c3
      have c4 := HL.out.c4
      have hz := HL.out.size
      simp only [← HA.out] at c0 c1 c2 c3 c4 hz
      have p20 := cell_of_row _ _ 0 _ _ _ HB2.out.bx
      have p21 := cell_of_row _ _ 1 _ _ _ HB2.out.bx
      have p2z := heap_lt HB2.out.bx
      simp only [List.getElem?_toArray, List.getElem?_cons_zero, List.getElem?_cons_succ] at p20 p21
      have p10 := cell_of_row _ _ 0 _ _ _ HB1.out.bx
      have p11 := cell_of_row _ _ 1 _ _ _ HB1.out.bx
      have p1z := heap_lt HB1.out.bx
      simp only [List.getElem?_toArray, List.getElem?_cons_zero, List.getElem?_cons_succ] at p10 p11
      go_wp2_with (first | (go_at_call 20; (with_reducible refine (waters_same xo yo vo zo m' q' xc yd vc zd K' Y' HS1.out HS2.out _ HB1.out.ix HB1.out.iy HB2.out.ix HB2.out.iy).mono ?_); rintro r wn ⟨rfl, hb⟩; have HLn := hid (HL.out.stays hb); have HB1n := hid (HB1.out.stays hb); have HB2n := hid (HB2.out.stays hb); clear hb c0 c1 c2 c3 c4 hz HL HB1 p10 p11 p1z HB2 p20 p21 p2z; have HL := HLn; clear HLn; have HB1 := HB1n; clear HB1n; have HB2 := HB2n; clear HB2n; have c0 := HL.out.c0; have c1 := HL.out.c1; have c2 := HL.out.c2; have c3 := HL.out.c3; have c4 := HL.out.c4; have hz := HL.out.size; simp only [← HA.out] at c0 c1 c2 c3 c4 hz; have p10 := cell_of_row _ _ 0 _ _ _ HB1.out.bx; have p11 := cell_of_row _ _ 1 _ _ _ HB1.out.bx; have p1z := heap_lt HB1.out.bx; simp only [List.getElem?_toArray, List.getElem?_cons_zero, List.getElem?_cons_succ] at p10 p11; have p20 := cell_of_row _ _ 0 _ _ _ HB2.out.bx; have p21 := cell_of_row _ _ 1 _ _ _ HB2.out.bx; have p2z := heap_lt HB2.out.bx; simp only [List.getElem?_toArray, List.getElem?_cons_zero, List.getElem?_cons_succ] at p20 p21) | (go_at_call 15; (refine (known_any _).mono ?_); rintro r wn ⟨rfl, hb⟩; have HLn := hid (HL.out.stays hb); have HB1n := hid (HB1.out.stays hb); have HB2n := hid (HB2.out.stays hb); clear hb c0 c1 c2 c3 c4 hz HL HB1 p10 p11 p1z HB2 p20 p21 p2z; have HL := HLn; clear HLn; have HB1 := HB1n; clear HB1n; have HB2 := HB2n; clear HB2n; have c0 := HL.out.c0; have c1 := HL.out.c1; have c2 := HL.out.c2; have c3 := HL.out.c3; have c4 := HL.out.c4; have hz := HL.out.size; simp only [← HA.out] at c0 c1 c2 c3 c4 hz; have p10 := cell_of_row _ _ 0 _ _ _ HB1.out.bx; have p11 := cell_of_row _ _ 1 _ _ _ HB1.out.bx; have p1z := heap_lt HB1.out.bx; simp only [List.getElem?_toArray, List.getElem?_cons_zero, List.getElem?_cons_succ] at p10 p11; have p20 := cell_of_row _ _ 0 _ _ _ HB2.out.bx; have p21 := cell_of_row _ _ 1 _ _ _ HB2.out.bx; have p2z := heap_lt HB2.out.bx; simp only [List.getElem?_toArray, List.getElem?_cons_zero, List.getElem?_cons_succ] at p20 p21))
      go_ret
      exact ⟨rfl, HL.out.below⟩
  · have HN : Hid (4000 < n ∨ 4000 < m ∨ 4000 < q) := hid (by omega)
    clear hl
    go_enter Try.func5, Try.ntmps5
    go_upto_region 1 with fail
    generalize World.alloc _ _ = w1 at HL ⊢
    simp only [← hA] at HL ⊢
    have c0 := HL.out.c0
    have c1 := HL.out.c1
    have c2 := HL.out.c2
    have c3 := HL.out.c3
    have c4 := HL.out.c4
    have hz := HL.out.size
    simp only [← HA.out] at c0 c1 c2 c3 c4 hz
    clear hA
    go_wp2_with (first
      | (go_at_call 14; (refine (large_yes Wd Hd ao ko bo n cap m kcap q bcap hn hm hq HN.out _).mono ?_); rintro r wn ⟨rfl, hb⟩; have HLn := hid (HL.out.stays hb); clear hb c0 c1 c2 c3 c4 hz HL; have HL := HLn; clear HLn; have c0 := HL.out.c0; have c1 := HL.out.c1; have c2 := HL.out.c2; have c3 := HL.out.c3; have c4 := HL.out.c4; have hz := HL.out.size; simp only [← HA.out] at c0 c1 c2 c3 c4 hz)
      | (go_at_call 15; (refine (known_any _).mono ?_); rintro r wn ⟨rfl, hb⟩; have HLn := hid (HL.out.stays hb); clear hb c0 c1 c2 c3 c4 hz HL; have HL := HLn; clear HLn; have c0 := HL.out.c0; have c1 := HL.out.c1; have c2 := HL.out.c2; have c3 := HL.out.c3; have c4 := HL.out.c4; have hz := HL.out.size; simp only [← HA.out] at c0 c1 c2 c3 c4 hz))
    go_ret
    exact ⟨rfl, HL.out.below⟩
end Go.Proofs.Ytkpnngpnjimogaa
