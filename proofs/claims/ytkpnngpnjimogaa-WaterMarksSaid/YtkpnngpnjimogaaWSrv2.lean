/-
  The walk of survey where the list of kinds has not one for each tile; what survey refuses at all; Validate.
-/
import Derived.Test.YtkpnngpnjimogaaWSrv
namespace Go.Proofs.Ytkpnngpnjimogaa
open Go.RowKit

set_option maxRecDepth 20000 in
set_option maxHeartbeats 6400000 in
theorem survey_len (W H : Nat) (ao ko bo : Option Addr) (n cap m kcap q bcap : Nat) (Z : Nat → Int) (hg : Good W H n Z) (hm : m ≠ W * H) (w : World) (hI : Ints w ao n Z) :
    Calls Try.prog 40 #[lv W H (.slice ao n cap), .agg #[.slice ko m kcap, .slice bo q bcap]] w fun r w' => r = .returned (.tuple #[chart0, .int .i64 1]) ∧ Below w.heap.size w w' := by
  have hn := hg.shaped.bound
  have hsd := hg.side
  have HS := hid (SB.start W H (.slice ao n cap) (.slice ko m kcap) (.slice bo q bcap) #[.int .i64 0, .int .i64 0, .slice none 0 0, .slice none 0 0, .slice none 0 0, .map none] w)
  have HI := hid (hI.stays HS.out.below)
  have HV := hid hg.err
  have HC := hid (fun mp w => cvalidate_len W H m hsd.2.1 hsd.2.2.2 hm ko bo ao kcap n cap q bcap mp w)
  obtain ⟨A, hA⟩ : ∃ A, A = w.heap.size := ⟨_, rfl⟩
  have HA := hid hA
  clear hI hg hsd hm
  go_enter Try.func40, Try.ntmps40
  go_upto_region 1 with fail
  generalize World.alloc _ _ = w1 at HS HI ⊢
  simp only [← hA, Nat.add_assoc, Nat.reduceAdd] at HS ⊢
  clear hA
  have c0 := cell_of_row w1 A 0 _ _ _ (by rw [HA.out]; exact HS.out.b0)
  have c1 := cell_of_row w1 A 1 _ _ _ (by rw [HA.out]; exact HS.out.b0)
  have c2 := cell_of_row w1 A 2 _ _ _ (by rw [HA.out]; exact HS.out.b0)
  have c3 := cell_of_row w1 (A + 1) 0 _ _ _ (by rw [HA.out]; exact HS.out.b1)
  have c4 := cell_of_row w1 (A + 1) 1 _ _ _ (by rw [HA.out]; exact HS.out.b1)
  have hz : A + 2 < w1.heap.size := by rw [HA.out]; exact heap_lt HS.out.b2
  simp only [List.getElem?_toArray, List.getElem?_cons_zero, List.getElem?_cons_succ] at c0 c1 c2 c3 c4
  go_upto_region 4 with (go_at_call 70; (refine (validate_any W H _ n cap Z (by omega) _ HI.out 0 HV.out).mono ?_); (rintro r w2 ⟨rfl, hb⟩); have HS2 := hid (HS.out.stays hb); clear hb c0 c1 c2 c3 c4 hz)
  clear HS HI
  have c0 := cell_of_row w2 A 0 _ _ _ (by rw [HA.out]; exact HS2.out.b0)
  have c1 := cell_of_row w2 A 1 _ _ _ (by rw [HA.out]; exact HS2.out.b0)
  have c2 := cell_of_row w2 A 2 _ _ _ (by rw [HA.out]; exact HS2.out.b0)
  have c3 := cell_of_row w2 (A + 1) 0 _ _ _ (by rw [HA.out]; exact HS2.out.b1)
  have c4 := cell_of_row w2 (A + 1) 1 _ _ _ (by rw [HA.out]; exact HS2.out.b1)
  have hz : A + 2 < w2.heap.size := by rw [HA.out]; exact heap_lt HS2.out.b2
  simp only [List.getElem?_toArray, List.getElem?_cons_zero, List.getElem?_cons_succ] at c0 c1 c2 c3 c4
  have hmm := @run_makeMap Try.prog
  have H3 := hid (HS2.out.stays (Joins.below_alloc2 w2 (.map #[] 0) (.cells #[.int .i64 W, .int .i64 H, .slice ao n cap, .slice ko m kcap, .slice bo q bcap, .map (some w2.heap.size)] 52)))
  go_upto_region 6 with (go_at_call 71; (refine (HC.out _ _).mono ?_); (rintro r w4 ⟨rfl, hn⟩); have H4 := hid (H3.out.stays hn); clear hn c0 c1 c2 c3 c4 hz)
  clear HS2 H3 HC hmm
  have hz2 : A + 2 < w4.heap.size := by rw [HA.out]; exact heap_lt H4.out.b2
  have r0 := cell_of_row w4 (A + 2) 0 _ _ _ (by rw [HA.out]; exact H4.out.b2)
  have r1 := cell_of_row w4 (A + 2) 1 _ _ _ (by rw [HA.out]; exact H4.out.b2)
  have r2 := cell_of_row w4 (A + 2) 2 _ _ _ (by rw [HA.out]; exact H4.out.b2)
  have r3 := cell_of_row w4 (A + 2) 3 _ _ _ (by rw [HA.out]; exact H4.out.b2)
  have r4 := cell_of_row w4 (A + 2) 4 _ _ _ (by rw [HA.out]; exact H4.out.b2)
  have r5 := cell_of_row w4 (A + 2) 5 _ _ _ (by rw [HA.out]; exact H4.out.b2)
  have f0 := frozen_of_row w4 (A + 2) 0 _ _ (by rw [HA.out]; exact H4.out.b2)
  have f1 := frozen_of_row w4 (A + 2) 1 _ _ (by rw [HA.out]; exact H4.out.b2)
  have f2 := frozen_of_row w4 (A + 2) 2 _ _ (by rw [HA.out]; exact H4.out.b2)
  have f3 := frozen_of_row w4 (A + 2) 3 _ _ (by rw [HA.out]; exact H4.out.b2)
  have f4 := frozen_of_row w4 (A + 2) 4 _ _ (by rw [HA.out]; exact H4.out.b2)
  have f5 := frozen_of_row w4 (A + 2) 5 _ _ (by rw [HA.out]; exact H4.out.b2)
  simp only [List.getElem?_toArray, List.getElem?_cons_zero, List.getElem?_cons_succ] at r0 r1 r2 r3 r4 r5
  go_wp2_with fail
  have k3 := set6 H4.out.b2 (.int .i64 0) (.int .i64 0) (.slice none 0 0) (.slice none 0 0) (.slice none 0 0) (.map none)
  have k4 := set6_kp (M := w.heap.size) (Kp.of_below H4.out.below) (Nat.le_add_right _ 2) (.int .i64 0) (.int .i64 0) (.slice none 0 0) (.slice none 0 0) (.slice none 0 0) (.map none)
  simp only [← HA.out] at k3 k4
  generalize World.setCell _ _ _ = w5 at k3 k4 ⊢
  have x0 := cell_of_row w5 (A + 2) 0 _ _ _ k3
  have x1 := cell_of_row w5 (A + 2) 1 _ _ _ k3
  have x2 := cell_of_row w5 (A + 2) 2 _ _ _ k3
  have x3 := cell_of_row w5 (A + 2) 3 _ _ _ k3
  have x4 := cell_of_row w5 (A + 2) 4 _ _ _ k3
  have x5 := cell_of_row w5 (A + 2) 5 _ _ _ k3
  simp only [List.getElem?_toArray, List.getElem?_cons_zero, List.getElem?_cons_succ] at x0 x1 x2 x3 x4 x5
  exact bodyPost_ret (v := .tuple #[chart0, .int .i64 1]) (by simp [results, Try.results40, go_sem, x0, x1, x2, x3, x4, x5]) rfl ⟨rfl, k4.below (Nat.le_of_eq HA.out.symm) (Nat.le_refl _)⟩

theorem Ints.ptr {w : World} {ao : Option Addr} {n : Nat} {Z : Nat → Int} (h : Ints w ao n Z) (hn : 0 < n) : ∃ b off : Nat, ao = some ⟨b, off, none⟩ := by
  obtain ⟨b, off, e, _⟩ := h 0 hn
  exact ⟨b, off, e⟩
/-- What survey refuses. -/
theorem survey_no (W H : Int) (ao ko bo : Option Addr) (n cap m kcap q bcap : Nat) (Z K Y : Nat → Int) (hn : n ≤ 4000) (hq : q ≤ 4000) (e : Int) (h : WErr W H n m q Z K Y e) (h0 : e ≠ 0) (w : World) (hI : Ints w ao n Z) (hK : Ints w ko m K) (hY : Ints w bo q Y) :
    Calls Try.prog 40 #[lv W H (.slice ao n cap), .agg #[.slice ko m kcap, .slice bo q bcap]] w fun r w' => r = .returned (.tuple #[chart0, .int .i64 e]) ∧ Below w.heap.size w w' := by
  rcases h with ⟨_, h⟩ | ⟨W', H', rfl, rfl, hg, h⟩
  · exact survey_land W H ao ko bo n cap m kcap q bcap Z (by omega) e h0 h w hI
  · by_cases hm : m = W' * H'
    · have hsd := hg.side
      have hb := hg.shaped.bound
      have h16 : 4 * 4 ≤ W' * H' := Nat.mul_le_mul hsd.1 hsd.2.2.1
      obtain ⟨ab, aoff, rfl⟩ := hI.ptr (by omega)
      obtain ⟨kb, koff, rfl⟩ := hK.ptr (by omega)
      exact (survey_to ⟨W', H', n, cap, m, kcap, q, bcap, ab, aoff, kb, koff, Z, K, Y, bo⟩ hg hm hq e h w hI hK hY).mono fun r w' k => ⟨k.err h0, k.below⟩
    · obtain rfl := h.arg fun k => hm k.1
      exact survey_len W' H' ao ko bo n cap m kcap q bcap Z hg hm w hI
/-- What a law's land and waters are where nothing is wrong. -/
theorem fine_wat {W H : Int} {ao ko bo : Option Addr} {n m q : Nat} {Z K Y : Nat → Int} (cap kcap bcap : Nat) (h : WErr W H n m q Z K Y 0) {w : World} (hI : Ints w ao n Z) (hK : Ints w ko m K) (_ : Ints w bo q Y) :
    ∃ d : Wat, (W = d.W ∧ H = d.H ∧ ao = some ⟨d.ab, d.aoff, none⟩ ∧ ko = some ⟨d.kb, d.koff, none⟩ ∧ bo = d.bo) ∧ (n = d.n ∧ cap = d.cap ∧ m = d.m ∧ kcap = d.kcap ∧ q = d.q ∧ bcap = d.bcap) ∧ (Z = d.Z ∧ K = d.K ∧ Y = d.Y) ∧ Good d.W d.H d.n d.Z ∧ Fine d.W d.H d.m d.q d.Z d.K d.Y := by
  obtain ⟨W', H', rfl, rfl, hg, hf⟩ := h.fine
  have hsd := hg.side
  have hb := hg.shaped.bound
  have h16 : 4 * 4 ≤ W' * H' := Nat.mul_le_mul hsd.1 hsd.2.2.1
  obtain ⟨ab, aoff, rfl⟩ := hI.ptr (by omega)
  obtain ⟨kb, koff, rfl⟩ := hK.ptr (by have := hf.len; omega)
  exact ⟨⟨W', H', n, cap, m, kcap, q, bcap, ab, aoff, kb, koff, Z, K, Y, bo⟩, ⟨rfl, rfl, rfl, rfl, rfl⟩, ⟨rfl, rfl, rfl, rfl, rfl, rfl⟩, ⟨rfl, rfl, rfl⟩, hg, hf⟩
/-- What survey hands back where nothing is wrong. -/
theorem survey_yes (d : Wat) (hg : Good d.W d.H d.n d.Z) (hf : Fine d.W d.H d.m d.q d.Z d.K d.Y) (hq : d.q ≤ 4000) (w : World) (hl : Ints w (some ⟨d.ab, d.aoff, none⟩) d.n d.Z) (hk : Ints w (some ⟨d.kb, d.koff, none⟩) d.m d.K) (hb : Ints w d.bo d.q d.Y) :
    Calls Try.prog 40 #[d.lnd, d.wts] w fun r w' => ∃ M, r = .returned (.tuple #[d.cht M, .int .i64 0]) ∧ Below w.heap.size w w' ∧ w.heap.size ≤ M ∧ Cx d M w' :=
  (survey_to d hg hf.len hq 0 hf.err w hl hk hb).mono fun r w' k => by
    obtain ⟨M, h1, h2, h3⟩ := k.ok rfl
    exact ⟨M, h3, k.below, h1, h2⟩

/-- Boxes of a law's land and waters. -/
structure LW (W H : Int) (ao ko bo : Option Addr) (n cap m kcap q bcap : Nat) (Z K Y : Nat → Int) (w wr : World) : Prop where
  below : Below w.heap.size w wr
  size : w.heap.size + 1 < wr.heap.size
  c0 : wr.cell? ⟨w.heap.size, 0, none⟩ = some (.int .i64 W)
  c1 : wr.cell? ⟨w.heap.size, 1, none⟩ = some (.int .i64 H)
  c2 : wr.cell? ⟨w.heap.size, 2, none⟩ = some (.slice ao n cap)
  c3 : wr.cell? ⟨w.heap.size + 1, 0, none⟩ = some (.slice ko m kcap)
  c4 : wr.cell? ⟨w.heap.size + 1, 1, none⟩ = some (.slice bo q bcap)
  land : Ints wr ao n Z
  kinds : Ints wr ko m K
  buoys : Ints wr bo q Y
section
variable {W H : Int} {ao ko bo : Option Addr} {n cap m kcap q bcap : Nat} {Z K Y : Nat → Int} {w wr w' : World}
theorem LW.stays (h : LW W H ao ko bo n cap m kcap q bcap Z K Y w wr) (k : Below wr.heap.size wr w') : LW W H ao ko bo n cap m kcap q bcap Z K Y w w' :=
  have hz := h.size
  have e : ∀ i, w'.cell? ⟨w.heap.size, i, none⟩ = wr.cell? ⟨w.heap.size, i, none⟩ := fun i => k.cell (p := ⟨w.heap.size, i, none⟩) (show w.heap.size < wr.heap.size by omega)
  have f : ∀ i, w'.cell? ⟨w.heap.size + 1, i, none⟩ = wr.cell? ⟨w.heap.size + 1, i, none⟩ := fun i => k.cell (p := ⟨w.heap.size + 1, i, none⟩) hz
  ⟨step h.below k, Nat.lt_of_lt_of_le h.size k.size, (e 0).trans h.c0, (e 1).trans h.c1, (e 2).trans h.c2, (f 0).trans h.c3, (f 1).trans h.c4, h.land.stays k, h.kinds.stays k, h.buoys.stays k⟩
theorem LW.start (hI : Ints w ao n Z) (hK : Ints w ko m K) (hY : Ints w bo q Y) :
    LW W H ao ko bo n cap m kcap q bcap Z K Y w ((w.alloc (.cells #[.int .i64 W, .int .i64 H, .slice ao n cap] 24)).alloc (.cells #[.slice ko m kcap, .slice bo q bcap] 26)) :=
  have k := Joins.below_alloc2 w (.cells #[.int .i64 W, .int .i64 H, .slice ao n cap] 24) (.cells #[.slice ko m kcap, .slice bo q bcap] 26)
  ⟨k, by simp, by simp, by simp, by simp, by simp, by simp, hI.stays k, hK.stays k, hY.stays k⟩
theorem LW.drew (h : LW W H ao ko bo n cap m kcap q bcap Z K Y w wr) : LW W H ao ko bo n cap m kcap q bcap Z K Y w wr.drew := h.stays ((Below.refl _ _).drew)
end

set_option maxRecDepth 20000 in
set_option maxHeartbeats 3200000 in
theorem wvalidate_to (W H : Int) (ao ko bo : Option Addr) (n cap m kcap q bcap : Nat) (Z K Y : Nat → Int) (hn : n ≤ 4000) (hq : q ≤ 4000) (e : Int) (h : WErr W H n m q Z K Y e) (w : World) (hI : Ints w ao n Z) (hK : Ints w ko m K) (hY : Ints w bo q Y) :
    Calls Try.prog 16 #[lv W H (.slice ao n cap), .agg #[.slice ko m kcap, .slice bo q bcap]] w fun r w' => r = .returned (.int .i64 e) ∧ Below w.heap.size w w' := by
  have HL := hid (LW.start (W := W) (H := H) (cap := cap) (kcap := kcap) (bcap := bcap) hI hK hY)
  have HE := hid h
  by_cases h0 : e = 0
  · subst h0
    obtain ⟨d, ⟨rfl, rfl, rfl, rfl, rfl⟩, ⟨rfl, rfl, rfl, rfl, rfl, rfl⟩, ⟨rfl, rfl, rfl⟩, hg, hf⟩ := fine_wat cap kcap bcap h hI hK hY
    have HG := hid hg
    have HF := hid hf
    clear hI hK hY h hg hf
    go_enter Try.func16, Try.ntmps16
    go_wp2_with (go_at_call 40; (refine (survey_yes d HG.out HF.out hq _ HL.out.land HL.out.kinds HL.out.buoys).mono ?_); rintro r w1 ⟨M, rfl, hb, hM, hC⟩; have HB1 := hid (HL.out.stays hb); have HB := hid (HB1.out.stays (Joins.below_alloc1 w1 (.cells #[.int .i64 d.W, .int .i64 d.H, d.as, d.ks, d.bs, .map (some M)] 52))); clear hb hM hC)
    go_ret
    exact ⟨rfl, HB.out.below⟩
  · have H0 := hid h0
    clear hI hK hY h h0
    go_enter Try.func16, Try.ntmps16
    go_wp2_with (go_at_call 40; (refine (survey_no W H ao ko bo n cap m kcap q bcap Z K Y hn hq e HE.out H0.out _ HL.out.land HL.out.kinds HL.out.buoys).mono ?_); rintro r w1 ⟨rfl, hb⟩; have HB1 := hid (HL.out.stays hb); have HB := hid (HB1.out.stays (Joins.below_alloc1 w1 (.cells #[.int .i64 0, .int .i64 0, .slice none 0 0, .slice none 0 0, .slice none 0 0, .map none] 52))); clear hb)
    go_ret
    exact ⟨rfl, HB.out.below⟩
end Go.Proofs.Ytkpnngpnjimogaa
