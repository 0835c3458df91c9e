/-
  The walks of survey and of Blocks of the program.
-/
import Derived.Test.YtbfpcolkbfljoaaDoorBPar
namespace Go.Proofs.YtbfpcolkbfljoaaDoor
open Go.RowKit Go.Maps

/-- The first error of rails and signals. -/
abbrev DErr (d : Rl) (e : Int) : Prop := BErr d.W d.H d.n d.m d.Z d.B d.l d.S e
theorem DErr.gd {d : Rl} (h : DErr d 0) : Gd d := ⟨(BErr.right h).1, (BErr.right h).2.1, (BErr.right h).2.2⟩
/-- The numbers of things in memory. -/
structure Bnd (d : Rl) : Prop where
  n : d.n ≤ 9223372036854775807
  m : d.m ≤ 9223372036854775807
  l : d.l ≤ 9223372036854775807
theorem dvalidate_to (d : Rl) (hb : Bnd d) (e : Int) (h : DErr d e) (w : World) (hH : Has d w) :
    Calls Tryd.prog 19 #[d.rv, d.ls] w fun r w' => r = .returned (.int .i64 e) ∧ Below w.heap.size w w' :=
  bvalidate_to d.W d.H d.ao d.n d.cap d.Z d.bo d.m d.bcap d.B d.lo d.l d.lcap d.S hb.n hb.m hb.l e h w hH.tab hH.ints hH.bools hH.sigs
/-- The box of rails. -/
structure RX (d : Rl) (A : Nat) (wr : World) : Prop where
  size : A < wr.heap.size
  c0 : wr.cell? ⟨A, 0, none⟩ = some (.int .i64 d.W)
  c1 : wr.cell? ⟨A, 1, none⟩ = some (.int .i64 d.H)
  c2 : wr.cell? ⟨A, 2, none⟩ = some d.as
  c3 : wr.cell? ⟨A, 3, none⟩ = some d.bs
  has : Has d wr
section
variable {d : Rl} {A : Nat} {w wr w' : World}
theorem RX.start (h : Has d w) : RX d w.heap.size (w.alloc (.cells #[.int .i64 d.W, .int .i64 d.H, d.as, d.bs] 25)) :=
  ⟨by simp, by simp, by simp, by simp, by simp, h.stays (Joins.below_alloc1 _ _)⟩
theorem RX.stays (h : RX d A wr) (k : Below wr.heap.size wr w') : RX d A w' :=
  have e : ∀ i, w'.cell? ⟨A, i, none⟩ = wr.cell? ⟨A, i, none⟩ := fun i => k.cell (p := ⟨A, i, none⟩) h.size
  ⟨Nat.lt_of_lt_of_le h.size k.size, (e 0).trans h.c0, (e 1).trans h.c1, (e 2).trans h.c2, (e 3).trans h.c3, h.has.stays k⟩
end

theorem store_func {P : Program} {w : World} {a : Addr} {m : Mode} (f : Fn) (b c : Array Value) : (store a (.func f b c) m).run P w = stored P w a (.func f b c) m := run_store P w a _ m rfl
attribute [local go_sem] store_func
set_option maxHeartbeats 3200000 in
theorem survey_any (d : Rl) (w : World) (hH : Has d w) :
    Calls Tryd.prog 66 #[d.rv, d.ls] w fun r w' => ∃ M, r = .returned (d.cht (.func (.func 79) #[d.ls] #[]) (.map (some M))) ∧ Below w.heap.size w w' ∧ w.heap.size ≤ M ∧ MV vI M (8 * d.n) (fun _ => none) w' := by
  have HH := hid hH
  have hmm := @run_makeMap Tryd.prog
  clear hH
  go_enter Tryd.func66, Tryd.ntmps66
  go_wp2_with fail
  refine bodyPost_ret (v := d.cht (.func (.func 79) #[d.ls] #[]) (.map (some (w.heap.size + 1 + 1)))) (by simp [results, Tryd.results66, go_sem]) rfl ⟨w.heap.size + 1 + 1, rfl, ?_, by omega, ?_⟩
  · exact (Joins.below_alloc2 w _ _).alloc (by simp; omega) _
  · have h := MV.start vI (8 * d.n) ((w.alloc (.cells #[.int .i64 d.W, .int .i64 d.H, d.as, d.bs] 25)).alloc (.cells #[.int .i64 d.W, .int .i64 d.H, d.as, d.bs, .func (.func 79) #[d.ls] #[], .map (some (w.heap.size + 1 + 1))] 101))
    simpa using h

/-- What Blocks hands back. -/
def BlocksIs (d : Rl) (e : Int) (w : World) (r : Ending) (w' : World) : Prop :=
  ∃ lst, r = .returned (.tuple #[lst, .int .i64 e]) ∧ Below w.heap.size w w' ∧ ((e ≠ 0 ∧ lst = .slice none 0 0) ∨ (e = 0 ∧ Gd d ∧ Parts (blk d (cutB d)) (allp d) w.heap.size lst w'))
theorem Parts.mono {β : Nat → Nat} {Q : List Nat} {B B' : Nat} {lst : Value} {w : World} (h : Parts β Q B lst w) (hB : B' ≤ B) : Parts β Q B' lst w := by
  obtain ⟨vs, h⟩ := h
  exact ⟨vs, row_mono h.row hB, fun j hj => row_mono (h.rows j hj) hB, h.far, h.apart⟩
theorem Parts.stays {β : Nat → Nat} {Q : List Nat} {B : Nat} {lst : Value} {w w' : World} (h : Parts β Q B lst w) (k : Below w.heap.size w w') : Parts β Q B lst w' := by
  obtain ⟨vs, h⟩ := h
  exact ⟨vs, h.stays k⟩
theorem Parts.slice {β : Nat → Nat} {Q : List Nat} {B : Nat} {lst : Value} {w : World} (h : Parts β Q B lst w) : ∃ ao cap, lst = .slice ao (rts β Q).length cap := by
  obtain ⟨vs, h⟩ := h
  exact slice_of_row h.row

set_option maxHeartbeats 3200000 in
theorem blocks_to (d : Rl) (hb : Bnd d) (e : Int) (h : DErr d e) (w : World) (hH : Has d w) :
    Calls Tryd.prog 26 #[d.rv, d.ls] w (BlocksIs d e w) := by
  have HV := hid (RX.start hH)
  have HW := hid (Joins.below_alloc1 w (.cells #[.int .i64 d.W, .int .i64 d.H, d.as, d.bs] 25))
  have HVA := hid (fun w hH => dvalidate_to d hb e h w hH)
  clear hH
  by_cases h0 : e = 0
  · subst h0
    have hg := h.gd
    have HG := hid hg
    have HP := hid (fun M hne w hH hm => parts_any d hg M hne (fun _ => none) (fun u v h => (by cases h)) w hH hm)
    clear hg
    go_enter Tryd.func26, Tryd.ntmps26
    go_upto_region 1 with fail
    generalize World.alloc w _ = wm at HV HW ⊢
    have c0 := HV.out.c0; have c1 := HV.out.c1; have c2 := HV.out.c2; have c3 := HV.out.c3; have hz := HV.out.size
    go_wp2_with (first
      | (go_at_call 19; (refine (HVA.out _ HV.out.has).mono ?_); rintro e w2 ⟨rfl, hbw⟩; have HV2 := hid (HV.out.stays hbw); have HW2 := hid (step HW.out (hbw.mono (Nat.le_refl _))); clear hbw c0 c1 c2 c3 hz HV HW; have c0 := HV2.out.c0; have c1 := HV2.out.c1; have c2 := HV2.out.c2; have c3 := HV2.out.c3; have hz := HV2.out.size)
      | (go_at_call 66; (refine (survey_any d _ HV2.out.has).mono ?_); rintro e w3 ⟨M, rfl, hbw, hM, hmv⟩; have HV3 := hid (HV2.out.stays hbw); have HW3 := hid (step HW2.out hbw); have HNE := hid (Ne.new HV2.out.has hM); have HMV := hid hmv; have HMM : Hid (w.heap.size ≤ M) := hid (Nat.le_trans HW2.out.size hM); clear hbw hM hmv c0 c1 c2 c3 hz HV2 HW2)
      | (go_at_call 67; (refine (HP.out M HNE.out _ HV3.out.has HMV.out).mono ?_); rintro e w4 ⟨lst, rfl, hpt, hkp, _⟩; have HW4 := hid (HW3.out.trans (hkp.below HMM.out HW3.out.size)); have HPT := hid (hpt.mono HW3.out.size); clear hpt hkp))
    go_ret2
    exact ⟨lst, rfl, HW4.out, .inr ⟨rfl, HG.out, HPT.out⟩⟩
  · have g : (e != 0) = true := by simpa using h0
    have g2 : (e == 0) = false := by simpa using h0
    go_enter Tryd.func26, Tryd.ntmps26
    go_upto_region 1 with fail
    generalize World.alloc w _ = wm at HV HW ⊢
    have c0 := HV.out.c0; have c1 := HV.out.c1; have c2 := HV.out.c2; have c3 := HV.out.c3; have hz := HV.out.size
    go_wp2_with (go_at_call 19; (refine (HVA.out _ HV.out.has).mono ?_); rintro e w2 ⟨rfl, hbw⟩; have HW2 := hid (step HW.out hbw); clear hbw)
    go_ret2
    exact ⟨_, rfl, HW2.out, .inl ⟨h0, rfl⟩⟩
end Go.Proofs.YtbfpcolkbfljoaaDoor
