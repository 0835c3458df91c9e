/-
  The walk of Of of the program.
-/
import Derived.Test.YtbfpcolkbfljoaaDoorBBlo
namespace Go.Proofs.YtbfpcolkbfljoaaDoor
open Go.RowKit Go.Maps

set_option maxRecDepth 20000 in
set_option maxHeartbeats 3200000 in
/-- Of a piece that lies. -/
theorem of_yes (d : Rl) (hb : Bnd d) (h : DErr d 0) (x : Nat) (hx : Pl d x) (t p : Int) (ht : t = (x / 8 : Nat)) (hp : p = (x % 8 : Nat)) (v : Nat) (hv : v = blk d (cutB d) x) (w : World) (hH : Has d w) :
    Calls Tryd.prog 29 #[d.rv, d.ls, .int .i64 t, .int .i64 p] w fun r w' => r = .returned (.tuple #[.int .i64 v, .int .i64 0]) ∧ Below w.heap.size w w' := by
  have HV := hid (RX.start hH)
  have HW := hid (Joins.below_alloc1 w (.cells #[.int .i64 d.W, .int .i64 d.H, d.as, d.bs] 25))
  have HVA := hid (fun w hH => dvalidate_to d hb 0 h w hH)
  have hg := h.gd
  have hsm := hg.small
  have hxl := hx.lt
  have hxa := hx.at
  have HG := hid hg
  have HLI := hid (fun w (hH : Has d w) => blies_any d.W d.H d.ao d.n d.cap d.Z d.bs t p hg.fine true (by rw [ht, hp]; exact hx) w hH.ints)
  have HNU := hid (fun w => number_any t p x (by omega) (by omega) (by omega) w)
  have HP := hid (fun M hne w hH hm => block_any d hg M x v hx (by rw [hv]; exact blk_is _ _ _) hne (fun _ => none) (fun u v h => (by cases h)) w hH hm)
  clear hH h hg hx hv ht hp
  go_enter Tryd.func29, Tryd.ntmps29
  go_upto_region 1 with fail
  generalize World.alloc w _ = wm at HV HW ⊢
  have c0 := HV.out.c0; have c1 := HV.out.c1; have c2 := HV.out.c2; have c3 := HV.out.c3; have hz := HV.out.size
  go_wp2_with (first
    | (go_at_call 19; (refine (HVA.out _ HV.out.has).mono ?_); rintro e w2 ⟨rfl, hbw⟩; have HV2 := hid (HV.out.stays hbw); have HW2 := hid (step HW.out (hbw.mono (Nat.le_refl _))); clear hbw c0 c1 c2 c3 hz HV HW; have c0 := HV2.out.c0; have c1 := HV2.out.c1; have c2 := HV2.out.c2; have c3 := HV2.out.c3; have hz := HV2.out.size)
    | (go_at_call 68; (refine (HLI.out _ HV2.out.has).mono ?_); rintro e w3 ⟨rfl, hbw⟩; have HV3 := hid (HV2.out.stays hbw); have HW3 := hid (step HW2.out (hbw.mono (Nat.le_refl _))); clear hbw c0 c1 c2 c3 hz HV2 HW2; have c0 := HV3.out.c0; have c1 := HV3.out.c1; have c2 := HV3.out.c2; have c3 := HV3.out.c3; have hz := HV3.out.size)
    | (go_at_call 66; (refine (survey_any d _ HV3.out.has).mono ?_); rintro e w4 ⟨M, rfl, hbw, hM, hmv⟩; have HV4 := hid (HV3.out.stays hbw); have HW4 := hid (step HW3.out hbw); have HNE := hid (Ne.new HV3.out.has hM); have HMV := hid hmv; have HMM : Hid (w.heap.size ≤ M) := hid (Nat.le_trans HW3.out.size hM); clear hbw hM hmv c0 c1 c2 c3 hz HV3 HW3)
    | (go_at_call 70; (refine (HNU.out _).mono ?_); rintro e w5 ⟨rfl, hbw⟩; have HV5 := hid (HV4.out.stays hbw); have HW5 := hid (step HW4.out hbw); have HMV5 := hid (HMV.out.same (hbw.block M HMV.out.lt)); clear hbw HV4 HW4 HMV)
    | (go_at_call 69; (refine (HP.out M HNE.out _ HV5.out.has HMV5.out).mono ?_); rintro e w6 ⟨rfl, hkp, _⟩; have HW6 := hid (HW5.out.trans (hkp.below HMM.out HW5.out.size)); clear hkp))
  go_ret2
  exact ⟨rfl, HW6.out⟩
end Go.Proofs.YtbfpcolkbfljoaaDoor
