/-
  The walk of the law on Dig.
-/
import Derived.Test.YtkpnngpnjimogaaWRFil
import Derived.Test.YtkpnngpnjimogaaWLawVal
namespace Go.Proofs.Ytkpnngpnjimogaa
open Go.RowKit

/-- A box that holds waters. -/
structure BX (B : Nat) (xo : Option Addr) (m c : Nat) (yo : Option Addr) (q d : Nat) (K Y : Nat → Int) (w : World) : Prop where
  bx : w.heap[B]? = some (.cells #[.slice xo m c, .slice yo q d] 26 (0, 0))
  ix : Ints w xo m K
  iy : Ints w yo q Y
theorem BX.stays {B : Nat} {xo : Option Addr} {m c : Nat} {yo : Option Addr} {q d : Nat} {K Y : Nat → Int} {w w' : World} (h : BX B xo m c yo q d K Y w) (k : Below w.heap.size w w') : BX B xo m c yo q d K Y w' :=
  ⟨(k.block _ (heap_lt h.bx)).trans h.bx, h.ix.stays k, h.iy.stays k⟩
theorem BX.start {xo : Option Addr} {m c : Nat} {yo : Option Addr} {q d : Nat} {K Y : Nat → Int} {w : World} (hx : Ints w xo m K) (hy : Ints w yo q Y) : BX w.heap.size xo m c yo q d K Y (w.alloc (.cells #[.slice xo m c, .slice yo q d] 26)) := by
  have k := Joins.below_alloc1 w (.cells #[.slice xo m c, .slice yo q d] 26)
  refine ⟨?_, hx.stays k, hy.stays k⟩
  show (w.heap.push _)[_]? = _
  rw [Array.getElem?_push, if_pos rfl]
theorem fine_dig {W H m q : Nat} {Z K Y : Nat → Int} {u : Nat} {k : Int} (hf : Fine W H m q Z K Y) (h : DErr W H Z K u k 0) : Fine W H m q Z (upK K u k) Y := by
  obtain ⟨v, e, hu, hk, h0, hflt⟩ := h.ok
  obtain rfl : u = v := by omega
  refine ⟨hf.len, fun i hi => ?_, hf.asc, hf.inn, fun i hi => ?_, fun i hi => ?_⟩
  · by_cases e : i = u
    · subst e; rw [upK_same]; omega
    · rw [upK_other _ _ e]; exact hf.kinds i hi
  · by_cases e : i = u
    · subst e; rw [upK_same]; exact fun _ => hflt
    · rw [upK_other _ _ e]; exact hf.fits i hi
  · have := hf.wet i hi
    unfold wt at this ⊢
    by_cases e : (Y i).toNat = u
    · rw [e, upK_same]; simp; left; omega
    · rw [upK_other _ _ e]; exact this
theorem fine_fill {W H m q : Nat} {Z K Y : Nat → Int} {u : Nat} (hf : Fine W H m q Z K Y) (h : FErr W H q Z K Y u 0) : Fine W H m q Z (upK K u 0) Y := by
  obtain ⟨v, e, hu, h0, hn⟩ := h.ok
  obtain rfl : u = v := by omega
  refine ⟨hf.len, fun i hi => ?_, hf.asc, hf.inn, fun i hi => ?_, fun i hi => ?_⟩
  · by_cases e : i = u
    · subst e; rw [upK_same]; omega
    · rw [upK_other _ _ e]; exact hf.kinds i hi
  · by_cases e : i = u
    · subst e; rw [upK_same]; exact fun h => absurd rfl h
    · rw [upK_other _ _ e]; exact hf.fits i hi
  · have h1 := hf.wet i hi
    unfold wt at h1 ⊢
    by_cases e : (Y i).toNat = u
    · obtain ⟨v, hv, _⟩ := tile_ex (hf.inn i hi)
      rw [e, upK_same]
      cases hs : sea W Z u
      · exact absurd ⟨memK_yes hi (show Y i = (u : Int) by omega), hs⟩ hn
      · simp
    · rw [upK_other _ _ e]; exact h1
theorem DOut.small {W H : Int} {n m q : Nat} {Z K Y : Nat → Int} {t k : Int} {m' q' : Nat} {K' Y' : Nat → Int} {c e : Int} (h : DOut W H n m q Z K Y t k m' q' K' Y' c e) (hm : m ≤ 4000) (hq : q ≤ 4000) : m' ≤ 4000 ∧ q' ≤ 4000 := by
  rcases h with ⟨_, ⟨rfl, rfl, _⟩, _⟩ | ⟨_, _, _, _, _, _, _, _, _, _, rfl, rfl, _⟩ <;> omega
theorem LOut.small {W H : Int} {n m q : Nat} {Z K Y : Nat → Int} {t : Int} {m' q' : Nat} {K' Y' : Nat → Int} {c e : Int} (h : LOut W H n m q Z K Y t m' q' K' Y' c e) (hm : m ≤ 4000) (hq : q ≤ 4000) : m' ≤ 4000 ∧ q' ≤ 4000 := by
  rcases h with ⟨_, ⟨rfl, rfl, _⟩, _⟩ | ⟨_, _, _, _, _, _, _, _, _, _, rfl, rfl, _⟩ <;> omega
theorem DOut.right {W H : Int} {n m q : Nat} {Z K Y : Nat → Int} {t k : Int} {m' q' : Nat} {K' Y' : Nat → Int} {c : Int} (h : DOut W H n m q Z K Y t k m' q' K' Y' c 0) : WErr W H n m' q' Z K' Y' 0 := by
  rcases h with ⟨h, _⟩ | ⟨_, W', H', u, rfl, rfl, hg, hf, rfl, h, rfl, rfl, rfl, rfl, rfl⟩
  · exact absurd rfl h
  · exact hg.werr (fine_dig hf h).err
theorem LOut.right {W H : Int} {n m q : Nat} {Z K Y : Nat → Int} {t : Int} {m' q' : Nat} {K' Y' : Nat → Int} {c : Int} (h : LOut W H n m q Z K Y t m' q' K' Y' c 0) : WErr W H n m' q' Z K' Y' 0 := by
  rcases h with ⟨h, _⟩ | ⟨_, W', H', u, rfl, rfl, hg, hf, rfl, h, rfl, rfl, rfl, rfl, rfl⟩
  · exact absurd rfl h
  · exact hg.werr (fine_fill hf h).err
/-- What was dug can be filled at once, and gives the waters that were. -/
theorem DOut.back {W H : Int} {n m q : Nat} {Z K Y : Nat → Int} {t k : Int} {m' q' : Nat} {K' Y' : Nat → Int} {c : Int} (h : DOut W H n m q Z K Y t k m' q' K' Y' c 0) : m' = m ∧ q' = q ∧ Y' = Y ∧ 500 ≤ c ∧ LOut W H n m' q' Z K' Y' t m' q' K Y' 250 0 := by
  rcases h with ⟨h, _⟩ | ⟨_, W', H', u, rfl, rfl, hg, hf, rfl, h, rfl, rfl, rfl, rfl, rfl⟩
  · exact absurd rfl h
  · have hf' := fine_dig hf h
    obtain ⟨v, e, hu, hk, h0, hflt⟩ := h.ok
    obtain rfl : u = v := by omega
    refine ⟨rfl, rfl, rfl, by unfold costK; (repeat' split) <;> omega, .inr ⟨rfl, W', H', u, rfl, rfl, hg, hf', rfl, .inr ⟨u, rfl, hu, .inr (.inr ⟨rfl, by rw [upK_same]; omega, fun hc => ?_⟩)⟩, rfl, rfl, ?_, rfl, rfl⟩⟩
    · obtain ⟨hm, hs⟩ := hc
      unfold memK at hm
      rw [List.any_eq_true] at hm
      obtain ⟨i, hi, hy⟩ := hm
      have hi := List.mem_range.1 hi
      have hy : Y' i = u := by simpa using hy
      have hw := hf.wet i hi
      unfold wt at hw
      rw [hy, Int.toNat_natCast, h0, hs] at hw
      simp at hw
    · funext j
      unfold upK
      by_cases e : j = u
      · simp [e, h0]
      · simp [e]

set_option maxRecDepth 20000 in
set_option maxHeartbeats 12800000 in
theorem walk_digs (Wd Hd : Int) (ao : Option Addr) (n cap : Nat) (Z : Nat → Int) (hn : n ≤ 9223372036854775807) (ko : Option Addr) (m kcap : Nat) (K : Nat → Int) (hm : m ≤ 9223372036854775807) (bo : Option Addr) (q bcap : Nat) (Y : Nat → Int) (hq : q ≤ 9223372036854775807) (t s : Int) (w : World) (hI : Ints w ao n Z) (hK : Ints w ko m K) (hY : Ints w bo q Y) :
    Calls Try.prog 4 #[lv Wd Hd (.slice ao n cap), .agg #[.slice ko m kcap, .slice bo q bcap], .int .i64 t, .int .i64 s] w fun e w' => e = .returned (.bool true) ∧ Below w.heap.size w w' := by
  have HL := hid (LW.start (W := Wd) (H := Hd) (cap := cap) (kcap := kcap) (bcap := bcap) hI hK hY)
  obtain ⟨A, hA⟩ : ∃ A, A = w.heap.size := ⟨_, rfl⟩
  have HA := hid hA
  clear hI hK hY
  by_cases hl : n ≤ 4000 ∧ m ≤ 4000 ∧ q ≤ 4000
  · obtain ⟨m', q', K', Y', c, e, he⟩ := DOut.ex Wd Hd n m q Z K Y t s
    have HJ := hid he
    have HLN := hid hl
    obtain ⟨l1, l2, l3⟩ := hl
    obtain ⟨s1, s2⟩ := he.small l2 l3
    have HS1 : Hid (m' ≤ 9223372036854775807) := hid (by omega)
    have HS2 : Hid (q' ≤ 9223372036854775807) := hid (by omega)
    by_cases h0 : e = 0
    · subst h0
      have HWE := hid he.right
      clear he l2 s1
      go_enter Try.func4, Try.ntmps4
      go_upto_region 1 with fail
      generalize World.alloc _ _ = w1 at HL ⊢
      simp only [← hA] at HL ⊢
      have c0 := HL.out.c0
      have c1 := HL.out.c1
      have c2 := HL.out.c2
      have c3 := HL.out.c3
      have c4 := HL.out.c4
      have hz := HL.out.size
      simp only [← HA.out] at c0 c1 c2 c3 c4 hz
      clear hA
      go_upto_region 4 with (first | (go_at_call 14; (refine (large_no Wd Hd ao ko bo n cap m kcap q bcap HLN.out _).mono ?_); rintro r wn ⟨rfl, hb⟩; have HLn := hid (HL.out.stays hb); clear hb c0 c1 c2 c3 c4 hz HL; have HL := HLn; clear HLn; have c0 := HL.out.c0; have c1 := HL.out.c1; have c2 := HL.out.c2; have c3 := HL.out.c3; have c4 := HL.out.c4; have hz := HL.out.size; simp only [← HA.out] at c0 c1 c2 c3 c4 hz) | (go_at_call 18; (with_reducible refine (dig_to Wd Hd ao ko bo n cap m kcap q bcap Z K Y l1 l3 t s HJ.out _ HL.out.land HL.out.kinds HL.out.buoys).mono ?_); rintro r wn ⟨xo, xc, yo, yd, rfl, hx, hy, hb⟩; have HX := hid hx; have HY := hid hy; clear hx hy; have HLn := hid (HL.out.stays hb); clear hb c0 c1 c2 c3 c4 hz HL; have HL := HLn; clear HLn; have c0 := HL.out.c0; have c1 := HL.out.c1; have c2 := HL.out.c2; have c3 := HL.out.c3; have c4 := HL.out.c4; have hz := HL.out.size; simp only [← HA.out] at c0 c1 c2 c3 c4 hz))
      have HB1 := hid (BX.start (c := xc) (d := yd) HX.out HY.out)
      have HLn := hid (HL.out.stays (Joins.below_alloc1 wn (.cells #[.slice xo m' xc, .slice yo q' yd] 26)))
      clear c0 c1 c2 c3 c4 hz HL HX HY
      have HL := HLn
      clear HLn
      generalize World.alloc wn _ = wb1 at HL HB1 ⊢
      generalize wn.heap.size = B1 at HB1 ⊢
      have c0 := HL.out.c0
      have c1 := HL.out.c1
      have c2 := HL.out.c2
      have c3 := HL.out.c3
      have c4 := HL.out.c4
      have hz := HL.out.size
      simp only [← HA.out] at c0 c1 c2 c3 c4 hz
      have p10 := cell_of_row _ _ 0 _ _ _ HB1.out.bx
      have p11 := cell_of_row _ _ 1 _ _ _ HB1.out.bx
      have p1z := heap_lt HB1.out.bx
      simp only [List.getElem?_toArray, List.getElem?_cons_zero, List.getElem?_cons_succ] at p10 p11
      go_upto_region 5 with (go_at_call 19; (with_reducible refine (refdig_to Wd Hd ao ko bo n cap m kcap q bcap Z K Y l1 l3 t s HJ.out _ HL.out.land HL.out.kinds HL.out.buoys).mono ?_); rintro r wn ⟨vo, vc, zo, zd, rfl, hx, hy, hb⟩; have HX := hid hx; have HY := hid hy; clear hx hy; have HLn := hid (HL.out.stays hb); have HB1n := hid (HB1.out.stays hb); clear hb c0 c1 c2 c3 c4 hz HL HB1 p10 p11 p1z; have HL := HLn; clear HLn; have HB1 := HB1n; clear HB1n; have c0 := HL.out.c0; have c1 := HL.out.c1; have c2 := HL.out.c2; have c3 := HL.out.c3; have c4 := HL.out.c4; have hz := HL.out.size; simp only [← HA.out] at c0 c1 c2 c3 c4 hz; have p10 := cell_of_row _ _ 0 _ _ _ HB1.out.bx; have p11 := cell_of_row _ _ 1 _ _ _ HB1.out.bx; have p1z := heap_lt HB1.out.bx; simp only [List.getElem?_toArray, List.getElem?_cons_zero, List.getElem?_cons_succ] at p10 p11)
      have HB2 := hid (BX.start (c := vc) (d := zd) HX.out HY.out)
      have HLn := hid (HL.out.stays (Joins.below_alloc1 wn (.cells #[.slice vo m' vc, .slice zo q' zd] 26)))
      have HB1n := hid (HB1.out.stays (Joins.below_alloc1 wn (.cells #[.slice vo m' vc, .slice zo q' zd] 26)))
      clear c0 c1 c2 c3 c4 hz HL HX HY HB1 p10 p11 p1z
      have HL := HLn
      clear HLn
      have HB1 := HB1n
      clear HB1n
      generalize World.alloc wn _ = wb2 at HL HB2 HB1 ⊢
      generalize wn.heap.size = B2 at HB2 ⊢
      have c0 := HL.out.c0
      have c1 := HL.out.c1
      have c2 := HL.out.c2
      have c3 := HL.out.c3
      have c4 := HL.out.c4
      have hz := HL.out.size
      simp only [← HA.out] at c0 c1 c2 c3 c4 hz
      have p20 := cell_of_row _ _ 0 _ _ _ HB2.out.bx
      have p21 := cell_of_row _ _ 1 _ _ _ HB2.out.bx
      have p2z := heap_lt HB2.out.bx
      simp only [List.getElem?_toArray, List.getElem?_cons_zero, List.getElem?_cons_succ] at p20 p21
      have p10 := cell_of_row _ _ 0 _ _ _ HB1.out.bx
      have p11 := cell_of_row _ _ 1 _ _ _ HB1.out.bx
      have p1z := heap_lt HB1.out.bx
      simp only [List.getElem?_toArray, List.getElem?_cons_zero, List.getElem?_cons_succ] at p10 p11
      go_wp2_with (first | (go_at_call 20; (with_reducible refine (waters_same xo yo vo zo m' q' xc yd vc zd K' Y' HS1.out HS2.out _ HB1.out.ix HB1.out.iy HB2.out.ix HB2.out.iy).mono ?_); rintro r wn ⟨rfl, hb⟩; have HLn := hid (HL.out.stays hb); have HB1n := hid (HB1.out.stays hb); have HB2n := hid (HB2.out.stays hb); clear hb c0 c1 c2 c3 c4 hz HL HB1 p10 p11 p1z HB2 p20 p21 p2z; have HL := HLn; clear HLn; have HB1 := HB1n; clear HB1n; have HB2 := HB2n; clear HB2n; have c0 := HL.out.c0; have c1 := HL.out.c1; have c2 := HL.out.c2; have c3 := HL.out.c3; have c4 := HL.out.c4; have hz := HL.out.size; simp only [← HA.out] at c0 c1 c2 c3 c4 hz; have p10 := cell_of_row _ _ 0 _ _ _ HB1.out.bx; have p11 := cell_of_row _ _ 1 _ _ _ HB1.out.bx; have p1z := heap_lt HB1.out.bx; simp only [List.getElem?_toArray, List.getElem?_cons_zero, List.getElem?_cons_succ] at p10 p11; have p20 := cell_of_row _ _ 0 _ _ _ HB2.out.bx; have p21 := cell_of_row _ _ 1 _ _ _ HB2.out.bx; have p2z := heap_lt HB2.out.bx; simp only [List.getElem?_toArray, List.getElem?_cons_zero, List.getElem?_cons_succ] at p20 p21) | (go_at_call 16; (with_reducible refine (wvalidate_to Wd Hd ao xo yo n cap m' xc q' yd Z K' Y' l1 s2 0 HWE.out _ HL.out.land HB1.out.ix HB1.out.iy).mono ?_); rintro r wn ⟨rfl, hb⟩; have HLn := hid (HL.out.stays hb); have HB1n := hid (HB1.out.stays hb); have HB2n := hid (HB2.out.stays hb); clear hb c0 c1 c2 c3 c4 hz HL HB1 p10 p11 p1z HB2 p20 p21 p2z; have HL := HLn; clear HLn; have HB1 := HB1n; clear HB1n; have HB2 := HB2n; clear HB2n; have c0 := HL.out.c0; have c1 := HL.out.c1; have c2 := HL.out.c2; have c3 := HL.out.c3; have c4 := HL.out.c4; have hz := HL.out.size; simp only [← HA.out] at c0 c1 c2 c3 c4 hz; have p10 := cell_of_row _ _ 0 _ _ _ HB1.out.bx; have p11 := cell_of_row _ _ 1 _ _ _ HB1.out.bx; have p1z := heap_lt HB1.out.bx; simp only [List.getElem?_toArray, List.getElem?_cons_zero, List.getElem?_cons_succ] at p10 p11; have p20 := cell_of_row _ _ 0 _ _ _ HB2.out.bx; have p21 := cell_of_row _ _ 1 _ _ _ HB2.out.bx; have p2z := heap_lt HB2.out.bx; simp only [List.getElem?_toArray, List.getElem?_cons_zero, List.getElem?_cons_succ] at p20 p21) | (go_at_call 15; (refine (known_any _).mono ?_); rintro r wn ⟨rfl, hb⟩; have HLn := hid (HL.out.stays hb); have HB1n := hid (HB1.out.stays hb); have HB2n := hid (HB2.out.stays hb); clear hb c0 c1 c2 c3 c4 hz HL HB1 p10 p11 p1z HB2 p20 p21 p2z; have HL := HLn; clear HLn; have HB1 := HB1n; clear HB1n; have HB2 := HB2n; clear HB2n; have c0 := HL.out.c0; have c1 := HL.out.c1; have c2 := HL.out.c2; have c3 := HL.out.c3; have c4 := HL.out.c4; have hz := HL.out.size; simp only [← HA.out] at c0 c1 c2 c3 c4 hz; have p10 := cell_of_row _ _ 0 _ _ _ HB1.out.bx; have p11 := cell_of_row _ _ 1 _ _ _ HB1.out.bx; have p1z := heap_lt HB1.out.bx; simp only [List.getElem?_toArray, List.getElem?_cons_zero, List.getElem?_cons_succ] at p10 p11; have p20 := cell_of_row _ _ 0 _ _ _ HB2.out.bx; have p21 := cell_of_row _ _ 1 _ _ _ HB2.out.bx; have p2z := heap_lt HB2.out.bx; simp only [List.getElem?_toArray, List.getElem?_cons_zero, List.getElem?_cons_succ] at p20 p21))
      go_ret
      exact ⟨rfl, HL.out.below⟩
    · have g2 : (e != 0) = true := by simpa using h0
      have g1 : (e == 0) = false := by simpa using h0
      clear he l2 s1 h0
      go_enter Try.func4, Try.ntmps4
      go_upto_region 1 with fail
      generalize World.alloc _ _ = w1 at HL ⊢
      simp only [← hA] at HL ⊢
      have c0 := HL.out.c0
      have c1 := HL.out.c1
      have c2 := HL.out.c2
      have c3 := HL.out.c3
      have c4 := HL.out.c4
      have hz := HL.out.size
      simp only [← HA.out] at c0 c1 c2 c3 c4 hz
      clear hA
      go_upto_region 4 with (first | (go_at_call 14; (refine (large_no Wd Hd ao ko bo n cap m kcap q bcap HLN.out _).mono ?_); rintro r wn ⟨rfl, hb⟩; have HLn := hid (HL.out.stays hb); clear hb c0 c1 c2 c3 c4 hz HL; have HL := HLn; clear HLn; have c0 := HL.out.c0; have c1 := HL.out.c1; have c2 := HL.out.c2; have c3 := HL.out.c3; have c4 := HL.out.c4; have hz := HL.out.size; simp only [← HA.out] at c0 c1 c2 c3 c4 hz) | (go_at_call 18; (with_reducible refine (dig_to Wd Hd ao ko bo n cap m kcap q bcap Z K Y l1 l3 t s HJ.out _ HL.out.land HL.out.kinds HL.out.buoys).mono ?_); rintro r wn ⟨xo, xc, yo, yd, rfl, hx, hy, hb⟩; have HX := hid hx; have HY := hid hy; clear hx hy; have HLn := hid (HL.out.stays hb); clear hb c0 c1 c2 c3 c4 hz HL; have HL := HLn; clear HLn; have c0 := HL.out.c0; have c1 := HL.out.c1; have c2 := HL.out.c2; have c3 := HL.out.c3; have c4 := HL.out.c4; have hz := HL.out.size; simp only [← HA.out] at c0 c1 c2 c3 c4 hz))
      have HB1 := hid (BX.start (c := xc) (d := yd) HX.out HY.out)
      have HLn := hid (HL.out.stays (Joins.below_alloc1 wn (.cells #[.slice xo m' xc, .slice yo q' yd] 26)))
      clear c0 c1 c2 c3 c4 hz HL HX HY
      have HL := HLn
      clear HLn
      generalize World.alloc wn _ = wb1 at HL HB1 ⊢
      generalize wn.heap.size = B1 at HB1 ⊢
      have c0 := HL.out.c0
      have c1 := HL.out.c1
      have c2 := HL.out.c2
      have c3 := HL.out.c3
      have c4 := HL.out.c4
      have hz := HL.out.size
      simp only [← HA.out] at c0 c1 c2 c3 c4 hz
      have p10 := cell_of_row _ _ 0 _ _ _ HB1.out.bx
      have p11 := cell_of_row _ _ 1 _ _ _ HB1.out.bx
      have p1z := heap_lt HB1.out.bx
      simp only [List.getElem?_toArray, List.getElem?_cons_zero, List.getElem?_cons_succ] at p10 p11
      go_upto_region 5 with (go_at_call 19; (with_reducible refine (refdig_to Wd Hd ao ko bo n cap m kcap q bcap Z K Y l1 l3 t s HJ.out _ HL.out.land HL.out.kinds HL.out.buoys).mono ?_); rintro r wn ⟨vo, vc, zo, zd, rfl, hx, hy, hb⟩; have HX := hid hx; have HY := hid hy; clear hx hy; have HLn := hid (HL.out.stays hb); have HB1n := hid (HB1.out.stays hb); clear hb c0 c1 c2 c3 c4 hz HL HB1 p10 p11 p1z; have HL := HLn; clear HLn; have HB1 := HB1n; clear HB1n; have c0 := HL.out.c0; have c1 := HL.out.c1; have c2 := HL.out.c2; have c3 := HL.out.c3; have c4 := HL.out.c4; have hz := HL.out.size; simp only [← HA.out] at c0 c1 c2 c3 c4 hz; have p10 := cell_of_row _ _ 0 _ _ _ HB1.out.bx; have p11 := cell_of_row _ _ 1 _ _ _ HB1.out.bx; have p1z := heap_lt HB1.out.bx; simp only [List.getElem?_toArray, List.getElem?_cons_zero, List.getElem?_cons_succ] at p10 p11)
      have HB2 := hid (BX.start (c := vc) (d := zd) HX.out HY.out)
      have HLn := hid (HL.out.stays (Joins.below_alloc1 wn (.cells #[.slice vo m' vc, .slice zo q' zd] 26)))
      have HB1n := hid (HB1.out.stays (Joins.below_alloc1 wn (.cells #[.slice vo m' vc, .slice zo q' zd] 26)))
      clear c0 c1 c2 c3 c4 hz HL HX HY HB1 p10 p11 p1z
      have HL := HLn
      clear HLn
      have HB1 := HB1n
      clear HB1n
      generalize World.alloc wn _ = wb2 at HL HB2 HB1 ⊢
      generalize wn.heap.size = B2 at HB2 ⊢
      have c0 := HL.out.c0
      have c1 := HL.out.c1
      have c2 := HL.out.c2
      have c3 := HL.out.c3
      have c4 := HL.out.c4
      have hz := HL.out.size
      simp only [← HA.out] at c0 c1 c2 c3 c4 hz
      have p20 := cell_of_row _ _ 0 _ _ _ HB2.out.bx
      have p21 := cell_of_row _ _ 1 _ _ _ HB2.out.bx
      have p2z := heap_lt HB2.out.bx
      simp only [List.getElem?_toArray, List.getElem?_cons_zero, List.getElem?_cons_succ] at p20 p21
      have p10 := cell_of_row _ _ 0 _ _ _ HB1.out.bx
      have p11 := cell_of_row _ _ 1 _ _ _ HB1.out.bx
      have p1z := heap_lt HB1.out.bx
      simp only [List.getElem?_toArray, List.getElem?_cons_zero, List.getElem?_cons_succ] at p10 p11
      go_wp2_with (first | (go_at_call 20; (with_reducible refine (waters_same xo yo vo zo m' q' xc yd vc zd K' Y' HS1.out HS2.out _ HB1.out.ix HB1.out.iy HB2.out.ix HB2.out.iy).mono ?_); rintro r wn ⟨rfl, hb⟩; have HLn := hid (HL.out.stays hb); have HB1n := hid (HB1.out.stays hb); have HB2n := hid (HB2.out.stays hb); clear hb c0 c1 c2 c3 c4 hz HL HB1 p10 p11 p1z HB2 p20 p21 p2z; have HL := HLn; clear HLn; have HB1 := HB1n; clear HB1n; have HB2 := HB2n; clear HB2n; have c0 := HL.out.c0; have c1 := HL.out.c1; have c2 := HL.out.c2; have c3 := HL.out.c3; have c4 := HL.out.c4; have hz := HL.out.size; simp only [← HA.out] at c0 c1 c2 c3 c4 hz; have p10 := cell_of_row _ _ 0 _ _ _ HB1.out.bx; have p11 := cell_of_row _ _ 1 _ _ _ HB1.out.bx; have p1z := heap_lt HB1.out.bx; simp only [List.getElem?_toArray, List.getElem?_cons_zero, List.getElem?_cons_succ] at p10 p11; have p20 := cell_of_row _ _ 0 _ _ _ HB2.out.bx; have p21 := cell_of_row _ _ 1 _ _ _ HB2.out.bx; have p2z := heap_lt HB2.out.bx; simp only [List.getElem?_toArray, List.getElem?_cons_zero, List.getElem?_cons_succ] at p20 p21) | (go_at_call 15; (refine (known_any _).mono ?_); rintro r wn ⟨rfl, hb⟩; have HLn := hid (HL.out.stays hb); have HB1n := hid (HB1.out.stays hb); have HB2n := hid (HB2.out.stays hb); clear hb c0 c1 c2 c3 c4 hz HL HB1 p10 p11 p1z HB2 p20 p21 p2z; have HL := HLn; clear HLn; have HB1 := HB1n; clear HB1n; have HB2 := HB2n; clear HB2n; have c0 := HL.out.c0; have c1 := HL.out.c1; have c2 := HL.out.c2; have c3 := HL.out.c3; have c4 := HL.out.c4; have hz := HL.out.size; simp only [← HA.out] at c0 c1 c2 c3 c4 hz; have p10 := cell_of_row _ _ 0 _ _ _ HB1.out.bx; have p11 := cell_of_row _ _ 1 _ _ _ HB1.out.bx; have p1z := heap_lt HB1.out.bx; simp only [List.getElem?_toArray, List.getElem?_cons_zero, List.getElem?_cons_succ] at p10 p11; have p20 := cell_of_row _ _ 0 _ _ _ HB2.out.bx; have p21 := cell_of_row _ _ 1 _ _ _ HB2.out.bx; have p2z := heap_lt HB2.out.bx; simp only [List.getElem?_toArray, List.getElem?_cons_zero, List.getElem?_cons_succ] at p20 p21))
      go_ret
      exact ⟨rfl, HL.out.below⟩
  · have HN : Hid (4000 < n ∨ 4000 < m ∨ 4000 < q) := hid (by omega)
    clear hl
    go_enter Try.func4, Try.ntmps4
    go_upto_region 1 with fail
    generalize World.alloc _ _ = w1 at HL ⊢
    simp only [← hA] at HL ⊢
    have c0 := HL.out.c0
    have c1 := HL.out.c1
    have c2 := HL.out.c2
    have c3 := HL.out.c3
    have c4 := HL.out.c4
    have hz := HL.out.size
    simp only [← HA.out] at c0 c1 c2 c3 c4 hz
    clear hA
    go_wp2_with (first
      | (go_at_call 14; (refine (large_yes Wd Hd ao ko bo n cap m kcap q bcap hn hm hq HN.out _).mono ?_); rintro r wn ⟨rfl, hb⟩; have HLn := hid (HL.out.stays hb); clear hb c0 c1 c2 c3 c4 hz HL; have HL := HLn; clear HLn; have c0 := HL.out.c0; have c1 := HL.out.c1; have c2 := HL.out.c2; have c3 := HL.out.c3; have c4 := HL.out.c4; have hz := HL.out.size; simp only [← HA.out] at c0 c1 c2 c3 c4 hz)
      | (go_at_call 15; (refine (known_any _).mono ?_); rintro r wn ⟨rfl, hb⟩; have HLn := hid (HL.out.stays hb); clear hb c0 c1 c2 c3 c4 hz HL; have HL := HLn; clear HLn; have c0 := HL.out.c0; have c1 := HL.out.c1; have c2 := HL.out.c2; have c3 := HL.out.c3; have c4 := HL.out.c4; have hz := HL.out.size; simp only [← HA.out] at c0 c1 c2 c3 c4 hz))
    go_ret
    exact ⟨rfl, HL.out.below⟩
end Go.Proofs.Ytkpnngpnjimogaa
