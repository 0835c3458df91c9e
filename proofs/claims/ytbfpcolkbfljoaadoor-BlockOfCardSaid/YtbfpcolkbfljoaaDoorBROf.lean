/-
  The walks of Of of the program and of the reference.
-/
import Derived.Test.YtbfpcolkbfljoaaDoorBOf
import Derived.Test.YtbfpcolkbfljoaaDoorBNm2
import Derived.Test.YtbfpcolkbfljoaaDoorRWalkLies
namespace Go.Proofs.YtbfpcolkbfljoaaDoor
open Go.RowKit Go.Maps

/-- What Of hands back. -/
def OfIs (d : Rl) (t p v e : Int) : Prop :=
  (e ≠ 0 ∧ v = 0 ∧ DErr d e) ∨ (DErr d 0 ∧ ((Lie d.n d.Z t p = false ∧ v = 0 ∧ e = 2) ∨ ∃ x : Nat, Pl d x ∧ t = (x / 8 : Nat) ∧ p = (x % 8 : Nat) ∧ e = 0 ∧ v = (blk d (cutB d) x : Nat)))
theorem OfIs.ex (d : Rl) (t p : Int) : ∃ v e, OfIs d t p v e := by
  obtain ⟨e, he⟩ := BErr.ex d.W d.H d.n d.m d.Z d.B d.l d.S
  by_cases h0 : e = 0
  · subst h0
    cases hl : Lie d.n d.Z t p
    · exact ⟨0, 2, .inr ⟨he, .inl ⟨hl, rfl, rfl⟩⟩⟩
    · obtain ⟨⟨h1, h2, h3, h4⟩, _⟩ := lie_in hl
      obtain ⟨t, rfl⟩ := Int.eq_ofNat_of_zero_le h1
      obtain ⟨p, rfl⟩ := Int.eq_ofNat_of_zero_le h3
      have e1 : (8 * t + p) / 8 = t := by omega
      have e2 : (8 * t + p) % 8 = p := by omega
      exact ⟨_, 0, .inr ⟨he, .inr ⟨8 * t + p, by unfold Pl; rw [e1, e2]; exact hl, by rw [e1], by rw [e2], rfl, rfl⟩⟩⟩
  · exact ⟨0, e, .inl ⟨h0, rfl, he⟩⟩
set_option maxRecDepth 20000 in
set_option maxHeartbeats 12800000 in
theorem of_to (d : Rl) (hb : Bnd d) (t p v e : Int) (h : OfIs d t p v e) (w : World) (hH : Has d w) :
    Calls Tryd.prog 29 #[d.rv, d.ls, .int .i64 t, .int .i64 p] w fun r w' => r = .returned (.tuple #[.int .i64 v, .int .i64 e]) ∧ Below w.heap.size w w' := by
  rcases h with ⟨h0, rfl, hd⟩ | ⟨hd, ⟨hl, rfl, rfl⟩ | ⟨x, hx, ht, hp, rfl, rfl⟩⟩
  · have HM := hid (LM.start hH)
    have HVA := hid (fun w hH => dvalidate_to d hb e hd w hH)
    have g : (e != 0) = true := by simpa using h0
    have g2 : (e == 0) = false := by simpa using h0
    clear hH hd
    go_enter Tryd.func29, Tryd.ntmps29
    go_upto_region 1 with fail
    generalize World.alloc w _ = wm at HM ⊢
    have c0 := HM.out.rx.c0
    have c1 := HM.out.rx.c1
    have c2 := HM.out.rx.c2
    have c3 := HM.out.rx.c3
    have hz := HM.out.rx.size
    go_wp2_with (go_at_call 19; (refine (HVA.out _ HM.out.rx.has).mono ?_); rintro r w1 ⟨rfl, hb⟩; have HN := hid (HM.out.stays hb); clear hb c0 c1 c2 c3 hz HM; have HM := HN; clear HN; have c0 := HM.out.rx.c0; have c1 := HM.out.rx.c1; have c2 := HM.out.rx.c2; have c3 := HM.out.rx.c3; have hz := HM.out.rx.size)
    go_ret2
    exact ⟨rfl, HM.out.below⟩
  · have HM := hid (LM.start hH)
    have HVA := hid (fun w hH => dvalidate_to d hb 0 hd w hH)
    have hg := DErr.gd hd
    have HLI := hid (fun w (hH : Has d w) => blies_any d.W d.H d.ao d.n d.cap d.Z d.bs t p hg.fine false hl w hH.ints)
    clear hH hd hg hl
    go_enter Tryd.func29, Tryd.ntmps29
    go_upto_region 1 with fail
    generalize World.alloc w _ = wm at HM ⊢
    have c0 := HM.out.rx.c0
    have c1 := HM.out.rx.c1
    have c2 := HM.out.rx.c2
    have c3 := HM.out.rx.c3
    have hz := HM.out.rx.size
    go_wp2_with (first
      | (go_at_call 19; (refine (HVA.out _ HM.out.rx.has).mono ?_); rintro r w1 ⟨rfl, hb⟩; have HN := hid (HM.out.stays hb); clear hb c0 c1 c2 c3 hz HM; have HM := HN; clear HN; have c0 := HM.out.rx.c0; have c1 := HM.out.rx.c1; have c2 := HM.out.rx.c2; have c3 := HM.out.rx.c3; have hz := HM.out.rx.size)
      | (go_at_call 68; (refine (HLI.out _ HM.out.rx.has).mono ?_); rintro r w1 ⟨rfl, hb⟩; have HN := hid (HM.out.stays hb); clear hb c0 c1 c2 c3 hz HM; have HM := HN; clear HN; have c0 := HM.out.rx.c0; have c1 := HM.out.rx.c1; have c2 := HM.out.rx.c2; have c3 := HM.out.rx.c3; have hz := HM.out.rx.size))
    go_ret2
    exact ⟨rfl, HM.out.below⟩
  · exact of_yes d hb hd x hx t p ht hp _ rfl w hH
set_option maxRecDepth 20000 in
set_option maxHeartbeats 12800000 in
theorem rof_to (d : Rl) (hb : Bnd d) (t p v e : Int) (h : OfIs d t p v e) (w : World) (hH : Has d w) :
    Calls Tryd.prog 28 #[d.rv, d.ls, .int .i64 t, .int .i64 p] w fun r w' => r = .returned (.tuple #[.int .i64 v, .int .i64 e]) ∧ Below w.heap.size w w' := by
  rcases h with ⟨h0, rfl, hd⟩ | ⟨hd, ⟨hl, rfl, rfl⟩ | ⟨x, hx, ht, hp, rfl, rfl⟩⟩
  · have HM := hid (LM.start hH)
    have HVA := hid (fun w hH => drvalidate_to d hb e hd w hH)
    have g : (e != 0) = true := by simpa using h0
    have g2 : (e == 0) = false := by simpa using h0
    clear hH hd
    go_enter Tryd.func28, Tryd.ntmps28
    go_upto_region 1 with fail
    generalize World.alloc w _ = wm at HM ⊢
    have c0 := HM.out.rx.c0
    have c1 := HM.out.rx.c1
    have c2 := HM.out.rx.c2
    have c3 := HM.out.rx.c3
    have hz := HM.out.rx.size
    go_wp2_with (go_at_call 18; (refine (HVA.out _ HM.out.rx.has).mono ?_); rintro r w1 ⟨rfl, hb⟩; have HN := hid (HM.out.stays hb); clear hb c0 c1 c2 c3 hz HM; have HM := HN; clear HN; have c0 := HM.out.rx.c0; have c1 := HM.out.rx.c1; have c2 := HM.out.rx.c2; have c3 := HM.out.rx.c3; have hz := HM.out.rx.size)
    go_ret2
    exact ⟨rfl, HM.out.below⟩
  · have HM := hid (LM.start hH)
    have HVA := hid (fun w hH => drvalidate_to d hb 0 hd w hH)
    have hg := DErr.gd hd
    have HLI := hid (fun w (hH : Has d w) => reflies_any d.W d.H d.ao d.n d.cap d.Z d.bs t p hg.fine false hl w hH.ints)
    clear hH hd hg hl
    go_enter Tryd.func28, Tryd.ntmps28
    go_upto_region 1 with fail
    generalize World.alloc w _ = wm at HM ⊢
    have c0 := HM.out.rx.c0
    have c1 := HM.out.rx.c1
    have c2 := HM.out.rx.c2
    have c3 := HM.out.rx.c3
    have hz := HM.out.rx.size
    go_wp2_with (first
      | (go_at_call 18; (refine (HVA.out _ HM.out.rx.has).mono ?_); rintro r w1 ⟨rfl, hb⟩; have HN := hid (HM.out.stays hb); clear hb c0 c1 c2 c3 hz HM; have HM := HN; clear HN; have c0 := HM.out.rx.c0; have c1 := HM.out.rx.c1; have c2 := HM.out.rx.c2; have c3 := HM.out.rx.c3; have hz := HM.out.rx.size)
      | (go_at_call 30; (refine (HLI.out _ HM.out.rx.has).mono ?_); rintro r w1 ⟨rfl, hb⟩; have HN := hid (HM.out.stays hb); clear hb c0 c1 c2 c3 hz HM; have HM := HN; clear HN; have c0 := HM.out.rx.c0; have c1 := HM.out.rx.c1; have c2 := HM.out.rx.c2; have c3 := HM.out.rx.c3; have hz := HM.out.rx.size))
    go_ret2
    exact ⟨rfl, HM.out.below⟩
  · have HM := hid (LM.start hH)
    have HVA := hid (fun w hH => drvalidate_to d hb 0 hd w hH)
    have hg := DErr.gd hd
    have hsm := hg.small
    have hxa := hx.at
    have HLI := hid (fun w (hH : Has d w) => reflies_any d.W d.H d.ao d.n d.cap d.Z d.bs t p hg.fine true (by rw [ht, hp]; exact hx) w hH.ints)
    have HNU := hid (fun w hH => numbers_any d hg w hH)
    have HXP := hid hx
    obtain ⟨N, hN⟩ : ∃ N, N = 6 * d.n := ⟨_, rfl⟩
    obtain ⟨y, hy⟩ : ∃ y, y = t6 x := ⟨_, rfl⟩
    have hyN : y < N := by rw [hy, hN]; exact hx.t6.1
    have ey : t * 6 + p = (y : Int) := by rw [hy, ht, hp]; unfold t6; omega
    have hyN' : (y : Int) < (N : Int) := by omega
    have ht1 : 0 ≤ t ∧ t ≤ 2000 := by omega
    have hp1 : 0 ≤ p ∧ p ≤ 7 := by omega
    obtain ⟨t1, t2⟩ := ht1
    obtain ⟨p1, p2⟩ := hp1
    have HN := hid hN
    have HY := hid hy
    clear hH hd hg hsm hxa ht hp hx hN hy
    go_enter Tryd.func28, Tryd.ntmps28
    go_upto_region 1 with fail
    generalize World.alloc w _ = wm at HM ⊢
    have c0 := HM.out.rx.c0
    have c1 := HM.out.rx.c1
    have c2 := HM.out.rx.c2
    have c3 := HM.out.rx.c3
    have hz := HM.out.rx.size
    go_wp2_with (first
      | (go_at_call 18; (refine (HVA.out _ HM.out.rx.has).mono ?_); rintro r w1 ⟨rfl, hb⟩; have HN := hid (HM.out.stays hb); clear hb c0 c1 c2 c3 hz HM; have HM := HN; clear HN; have c0 := HM.out.rx.c0; have c1 := HM.out.rx.c1; have c2 := HM.out.rx.c2; have c3 := HM.out.rx.c3; have hz := HM.out.rx.size)
      | (go_at_call 30; (refine (HLI.out _ HM.out.rx.has).mono ?_); rintro r w1 ⟨rfl, hb⟩; have HN := hid (HM.out.stays hb); clear hb c0 c1 c2 c3 hz HM; have HM := HN; clear HN; have c0 := HM.out.rx.c0; have c1 := HM.out.rx.c1; have c2 := HM.out.rx.c2; have c3 := HM.out.rx.c3; have hz := HM.out.rx.size)
      | (go_at_call 65; (refine (HNU.out _ HM.out.rx.has).mono ?_); rintro r w1 ⟨F, rfl, hb, hrow, hF⟩; have HN := hid (HM.out.stays hb); clear hb c0 c1 c2 c3 hz HM; have HM := HN; clear HN; have c0 := HM.out.rx.c0; have c1 := HM.out.rx.c1; have c2 := HM.out.rx.c2; have c3 := HM.out.rx.c3; have hz := HM.out.rx.size; rw [← HN.out] at hrow ⊢; have HF := hid hF; have hcy := (hrow.cellAt y (by omega)).trans (vals_get _ hyN); have hzz := (hrow.lt _ rfl).2; clear hF hrow))
    go_ret2
    have h1 := HF.out.end (t6 x) HXP.out.t6.1
    rw [HXP.out.t6.2] at h1
    have hv : iv F (t6 x) = .int .i64 ((blk d (cutB d) x : Nat) : Int) := congrArg (Value.int .i64) (h1.1 HXP.out)
    exact ⟨by rw [HY.out, hv]; rfl, HM.out.below⟩
end Go.Proofs.YtbfpcolkbfljoaaDoor
