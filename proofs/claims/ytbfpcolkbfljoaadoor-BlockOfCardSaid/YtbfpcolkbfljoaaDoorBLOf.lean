/-
  The walk of the law on the block of a piece.
-/
import Derived.Test.YtbfpcolkbfljoaaDoorBROf
namespace Go.Proofs.YtbfpcolkbfljoaaDoor
open Go.RowKit Go.Maps

set_option maxRecDepth 20000 in
set_option maxHeartbeats 12800000 in
theorem walk_of (d : Rl) (hb : Bnd d) (t p : Int) (w : World) (hH : Has d w) :
    Calls Tryd.prog 7 #[d.rv, d.ls, .int .i64 t, .int .i64 p] w fun r w' => r = .returned (.bool true) ∧ Below w.heap.size w w' := by
  have HM := hid (LM.start hH)
  obtain ⟨v, e, hm⟩ := OfIs.ex d t p
  obtain ⟨f, hf⟩ := far_ex d
  have HF := hid (fun w => far_any d hb f hf w)
  have HV1 := hid (fun w hH => of_to d hb t p v e hm w hH)
  have HV2 := hid (fun w hH => rof_to d hb t p v e hm w hH)
  have ge : (e == e) = true := by simp
  have gv : (v == v) = true := by simp
  clear hH hf hm
  cases f
  · skip
    go_enter Tryd.func7, Tryd.ntmps7
    go_upto_region 1 with fail
    generalize World.alloc w _ = wm at HM ⊢
    have c0 := HM.out.rx.c0
    have c1 := HM.out.rx.c1
    have c2 := HM.out.rx.c2
    have c3 := HM.out.rx.c3
    have hz := HM.out.rx.size
    go_wp2_with (first
      | (go_at_call 16; (refine (HF.out _).mono ?_); rintro r w1 ⟨rfl, hb⟩; have HN := hid (HM.out.stays hb); clear hb c0 c1 c2 c3 hz HM; have HM := HN; clear HN; have c0 := HM.out.rx.c0; have c1 := HM.out.rx.c1; have c2 := HM.out.rx.c2; have c3 := HM.out.rx.c3; have hz := HM.out.rx.size)
      | (go_at_call 28; (refine (HV2.out _ HM.out.rx.has).mono ?_); rintro r w1 ⟨rfl, hb⟩; have HN := hid (HM.out.stays hb); clear hb c0 c1 c2 c3 hz HM; have HM := HN; clear HN; have c0 := HM.out.rx.c0; have c1 := HM.out.rx.c1; have c2 := HM.out.rx.c2; have c3 := HM.out.rx.c3; have hz := HM.out.rx.size)
      | (go_at_call 29; (refine (HV1.out _ HM.out.rx.has).mono ?_); rintro r w1 ⟨rfl, hb⟩; have HN := hid (HM.out.stays hb); clear hb c0 c1 c2 c3 hz HM; have HM := HN; clear HN; have c0 := HM.out.rx.c0; have c1 := HM.out.rx.c1; have c2 := HM.out.rx.c2; have c3 := HM.out.rx.c3; have hz := HM.out.rx.size)
      | (go_at_call 17; (refine (known_any _ HM.out.rx.has.tab).mono ?_); rintro r w1 ⟨rfl, hb⟩; have HN := hid (HM.out.stays hb); clear hb c0 c1 c2 c3 hz HM; have HM := HN; clear HN; have c0 := HM.out.rx.c0; have c1 := HM.out.rx.c1; have c2 := HM.out.rx.c2; have c3 := HM.out.rx.c3; have hz := HM.out.rx.size))
    go_ret
    exact ⟨rfl, HM.out.below⟩
  · skip
    go_enter Tryd.func7, Tryd.ntmps7
    go_upto_region 1 with fail
    generalize World.alloc w _ = wm at HM ⊢
    have c0 := HM.out.rx.c0
    have c1 := HM.out.rx.c1
    have c2 := HM.out.rx.c2
    have c3 := HM.out.rx.c3
    have hz := HM.out.rx.size
    go_wp2_with (first
      | (go_at_call 16; (refine (HF.out _).mono ?_); rintro r w1 ⟨rfl, hb⟩; have HN := hid (HM.out.stays hb); clear hb c0 c1 c2 c3 hz HM; have HM := HN; clear HN; have c0 := HM.out.rx.c0; have c1 := HM.out.rx.c1; have c2 := HM.out.rx.c2; have c3 := HM.out.rx.c3; have hz := HM.out.rx.size)
      | (go_at_call 17; (refine (known_any _ HM.out.rx.has.tab).mono ?_); rintro r w1 ⟨rfl, hb⟩; have HN := hid (HM.out.stays hb); clear hb c0 c1 c2 c3 hz HM; have HM := HN; clear HN; have c0 := HM.out.rx.c0; have c1 := HM.out.rx.c1; have c2 := HM.out.rx.c2; have c3 := HM.out.rx.c3; have hz := HM.out.rx.size))
    go_ret
    exact ⟨rfl, HM.out.below⟩
end Go.Proofs.YtbfpcolkbfljoaaDoor
