/-
  The walks of Joined of the program and of known.
-/
import Derived.Test.YtkpnngpnjimogaaWSail
import Derived.Test.YtkpnngpnjimogaaWRLie
import Derived.Deep.OwnRows
namespace Go.Proofs.Ytkpnngpnjimogaa
open Go.RowKit

/-- What Joined answers on right waters. -/
def JI (W H : Nat) (Z K : Nat → Int) (t s : Int) (b : Bool) (e : Int) : Prop :=
  (e = 2 ∧ b = false ∧ tileB W H t = false) ∨ (e = 1 ∧ b = false ∧ tileB W H t = true ∧ ¬ (0 ≤ s ∧ s ≤ 3)) ∨ (e = 0 ∧ (0 ≤ s ∧ s ≤ 3) ∧ ∃ u : Nat, t = u ∧ u < W * H ∧ b = joi W H Z K u s)
theorem JI.ex (W H : Nat) (Z K : Nat → Int) (t s : Int) : ∃ b e, JI W H Z K t s b e := by
  cases h : tileB W H t
  · exact ⟨false, 2, .inl ⟨rfl, rfl, h⟩⟩
  · by_cases hs : 0 ≤ s ∧ s ≤ 3
    · obtain ⟨u, rfl, hu⟩ := tile_ex h
      exact ⟨_, 0, .inr (.inr ⟨rfl, hs, u, rfl, hu, rfl⟩)⟩
    · exact ⟨false, 1, .inr (.inl ⟨rfl, rfl, h, hs⟩)⟩
abbrev JIs (d : Wat) (t s : Int) (b : Bool) (e : Int) : Prop := JI d.W d.H d.Z d.K t s b e

set_option maxRecDepth 20000 in
set_option maxHeartbeats 6400000 in
theorem joined_yes (d : Wat) (hg : Good d.W d.H d.n d.Z) (hf : Fine d.W d.H d.m d.q d.Z d.K d.Y) (hq : d.q ≤ 4000) (t s : Int) (b : Bool) (e : Int) (h : JIs d t s b e) (w : World) (hl : Ints w (some ⟨d.ab, d.aoff, none⟩) d.n d.Z) (hk : Ints w (some ⟨d.kb, d.koff, none⟩) d.m d.K) (hb : Ints w d.bo d.q d.Y) :
    Calls Try.prog 23 #[d.lnd, d.wts, .int .i64 t, .int .i64 s] w fun r w' => r = .returned (.tuple #[.bool b, .int .i64 e]) ∧ Below w.heap.size w w' := by
  have hsd := hg.side
  have HL := hid (LW.start (W := d.W) (H := d.H) (cap := d.cap) (kcap := d.kcap) (bcap := d.bcap) hl hk hb)
  have HG := hid hg
  have HF := hid hf
  have HIT := hid (fun M w => cisTile_any d hsd.2.1 hsd.2.2.2 M t w)
  clear hl hk hb hg hf hsd
  rcases h with ⟨rfl, rfl, h⟩ | ⟨rfl, rfl, h, hs⟩ | ⟨rfl, hs, u, rfl, hu, hb⟩
  · rw [h] at HIT
    clear h
    go_enter Try.func23, Try.ntmps23
    go_upto_region 2 with (go_at_call 40; (refine (survey_yes d HG.out HF.out hq _ HL.out.land HL.out.kinds HL.out.buoys).mono ?_); rintro r w1 ⟨M, rfl, hb, hM, hC⟩; have HT := hid (TB.start HL.out hb hM hC); clear hb hM hC)
    generalize World.alloc _ _ = wt1 at HT ⊢
    have c0 := HT.out.cb.c0
    have c1 := HT.out.cb.c1
    have c2 := HT.out.cb.c2
    have c3 := HT.out.cb.c3
    have c4 := HT.out.cb.c4
    have c5 := HT.out.cb.c5
    have hz := HT.out.cb.size
    go_wp2_with (go_at_call 44; ((refine (HIT.out _ _).mono ?_)); rintro r wn ⟨rfl, hb⟩; have HTn := hid (HT.out.go hb); clear hb c0 c1 c2 c3 c4 c5 hz HT; have HT := HTn; clear HTn; have c0 := HT.out.cb.c0; have c1 := HT.out.cb.c1; have c2 := HT.out.cb.c2; have c3 := HT.out.cb.c3; have c4 := HT.out.cb.c4; have c5 := HT.out.cb.c5; have hz := HT.out.cb.size)
    go_ret2
    exact ⟨rfl, HT.out.below⟩
  · rw [h] at HIT
    clear h
    have HS := hid hs
    clear hs
    by_cases h0 : s < 0
    · go_enter Try.func23, Try.ntmps23
      go_upto_region 2 with (go_at_call 40; (refine (survey_yes d HG.out HF.out hq _ HL.out.land HL.out.kinds HL.out.buoys).mono ?_); rintro r w1 ⟨M, rfl, hb, hM, hC⟩; have HT := hid (TB.start HL.out hb hM hC); clear hb hM hC)
      generalize World.alloc _ _ = wt1 at HT ⊢
      have c0 := HT.out.cb.c0
      have c1 := HT.out.cb.c1
      have c2 := HT.out.cb.c2
      have c3 := HT.out.cb.c3
      have c4 := HT.out.cb.c4
      have c5 := HT.out.cb.c5
      have hz := HT.out.cb.size
      go_wp2_with (go_at_call 44; ((refine (HIT.out _ _).mono ?_)); rintro r wn ⟨rfl, hb⟩; have HTn := hid (HT.out.go hb); clear hb c0 c1 c2 c3 c4 c5 hz HT; have HT := HTn; clear HTn; have c0 := HT.out.cb.c0; have c1 := HT.out.cb.c1; have c2 := HT.out.cb.c2; have c3 := HT.out.cb.c3; have c4 := HT.out.cb.c4; have c5 := HT.out.cb.c5; have hz := HT.out.cb.size)
      go_ret2
      exact ⟨rfl, HT.out.below⟩
    · have h4 : 4 ≤ s := by have := HS.out; omega
      go_enter Try.func23, Try.ntmps23
      go_upto_region 2 with (go_at_call 40; (refine (survey_yes d HG.out HF.out hq _ HL.out.land HL.out.kinds HL.out.buoys).mono ?_); rintro r w1 ⟨M, rfl, hb, hM, hC⟩; have HT := hid (TB.start HL.out hb hM hC); clear hb hM hC)
      generalize World.alloc _ _ = wt1 at HT ⊢
      have c0 := HT.out.cb.c0
      have c1 := HT.out.cb.c1
      have c2 := HT.out.cb.c2
      have c3 := HT.out.cb.c3
      have c4 := HT.out.cb.c4
      have c5 := HT.out.cb.c5
      have hz := HT.out.cb.size
      go_wp2_with (go_at_call 44; ((refine (HIT.out _ _).mono ?_)); rintro r wn ⟨rfl, hb⟩; have HTn := hid (HT.out.go hb); clear hb c0 c1 c2 c3 c4 c5 hz HT; have HT := HTn; clear HTn; have c0 := HT.out.cb.c0; have c1 := HT.out.cb.c1; have c2 := HT.out.cb.c2; have c3 := HT.out.cb.c3; have c4 := HT.out.cb.c4; have c5 := HT.out.cb.c5; have hz := HT.out.cb.size)
      go_ret2
      exact ⟨rfl, HT.out.below⟩
  · rw [tile_yes hu] at HIT
    have HJ := hid (fun M w hC => joined_any d HG.out HF.out.len M u hu s hs.1 hs.2 b hb w hC)
    obtain ⟨h0, h3⟩ := hs
    clear hb hu
    go_enter Try.func23, Try.ntmps23
    go_upto_region 2 with (go_at_call 40; (refine (survey_yes d HG.out HF.out hq _ HL.out.land HL.out.kinds HL.out.buoys).mono ?_); rintro r w1 ⟨M, rfl, hb, hM, hC⟩; have HT := hid (TB.start HL.out hb hM hC); clear hb hM hC)
    generalize World.alloc _ _ = wt1 at HT ⊢
    have c0 := HT.out.cb.c0
    have c1 := HT.out.cb.c1
    have c2 := HT.out.cb.c2
    have c3 := HT.out.cb.c3
    have c4 := HT.out.cb.c4
    have c5 := HT.out.cb.c5
    have hz := HT.out.cb.size
    go_wp2_with (first
      | (go_at_call 44; ((refine (HIT.out _ _).mono ?_)); rintro r wn ⟨rfl, hb⟩; have HTn := hid (HT.out.go hb); clear hb c0 c1 c2 c3 c4 c5 hz HT; have HT := HTn; clear HTn; have c0 := HT.out.cb.c0; have c1 := HT.out.cb.c1; have c2 := HT.out.cb.c2; have c3 := HT.out.cb.c3; have c4 := HT.out.cb.c4; have c5 := HT.out.cb.c5; have hz := HT.out.cb.size)
      | (go_at_call 53; ((refine (HJ.out _ _ HT.out.cb.cx).mono ?_)); rintro r wn ⟨rfl, hn⟩; have HTn := hid (HT.out.on hn); clear hn c0 c1 c2 c3 c4 c5 hz HT; have HT := HTn; clear HTn; have c0 := HT.out.cb.c0; have c1 := HT.out.cb.c1; have c2 := HT.out.cb.c2; have c3 := HT.out.cb.c3; have c4 := HT.out.cb.c4; have c5 := HT.out.cb.c5; have hz := HT.out.cb.size))
    go_ret2
    exact ⟨rfl, HT.out.below⟩

theorem flat_good : Good 4 4 25 (fun _ => 0) := by
  refine ⟨⟨⟨⟨by omega, by omega⟩, by omega, by omega⟩, by decide⟩, fun i _ => ⟨by omega, by omega⟩, fun i _ => ⟨fun _ => by unfold dist; simp, fun _ => by unfold dist; simp⟩⟩
theorem flat_fine : Fine 4 4 16 0 (fun _ => 0) (fun _ => 0) (fun _ => 0) :=
  ⟨rfl, fun i _ => ⟨by omega, by omega⟩, fun i _ h => (by omega), fun i h => (by omega), fun u _ h => absurd rfl h, fun i h => (by omega)⟩
theorem flat_sea (u : Nat) : sea 4 (fun _ => 0) u = true := by unfold sea top; rfl
theorem flat_wet (u : Nat) : wt 4 (fun _ => 0) (fun _ => 0) u = true := by unfold wt; rw [flat_sea]; rfl
theorem flat_joi : joi 4 4 (fun _ => 0) (fun _ => 0) 0 0 = true := by
  have hb : bey 4 4 0 0 = 1 := by decide
  unfold joi
  show (if bey ((4 : Nat) : Int) ((4 : Nat) : Int) ((0 : Nat) : Int) 0 < 0 then false else joi2 4 (fun _ => 0) (fun _ => 0) 0 (bey ((4 : Nat) : Int) ((4 : Nat) : Int) ((0 : Nat) : Int) 0).toNat 0) = true
  rw [show bey ((4 : Nat) : Int) ((4 : Nat) : Int) ((0 : Nat) : Int) 0 = 1 from hb]
  unfold joi2 lev
  rw [flat_wet, flat_wet, flat_sea, flat_sea]
  decide
theorem run_mk (n : Nat) (hn : n ≤ 2000) (w : World) : (Instr.makeSlice 22 (.int .i64 (n : Int)) (.int .i64 (n : Int))).run Try.prog w = .ok (.slice (some ⟨w.heap.size, 0, none⟩) n n) (w.alloc (.cells (madeCells #[.int .i64 0] n) 3)) :=
  run_make_row' 22 3 (.int .i64 0) 8 Try.underlying22 info3 rfl .i64 .i64 n (by omega) (by omega) w
theorem ints_made (n : Nat) (w w' : World) (hb : Below (w.heap.size + 1) (w.alloc (.cells (madeCells #[.int .i64 0] n) 3)) w') : Ints w' (some ⟨w.heap.size, 0, none⟩) n (fun _ => 0) := fun j hj => by
  have hz := hb.size
  simp at hz
  refine ⟨w.heap.size, 0, rfl, by omega, ?_⟩
  rw [hb.cell (p := ⟨w.heap.size, 0 + j, none⟩) (show w.heap.size < w.heap.size + 1 by omega), Nat.zero_add]
  exact (World.rowIs_made w (.int .i64 0) n 3).cell hj
theorem mk16 (w : World) : (Instr.makeSlice 22 (.int .i64 16) (.int .i64 16)).run Try.prog w = .ok (.slice (some ⟨w.heap.size, 0, none⟩) 16 16) (w.alloc (.cells (madeCells #[.int .i64 0] 16) 3)) := run_mk 16 (by omega) w
theorem mk25 (w : World) : (Instr.makeSlice 22 (.int .i64 25) (.int .i64 25)).run Try.prog w = .ok (.slice (some ⟨w.heap.size, 0, none⟩) 25 25) (w.alloc (.cells (madeCells #[.int .i64 0] 25) 3)) := run_mk 25 (by omega) w
set_option maxHeartbeats 1600000 in
theorem sea0_any (w : World) : Calls Try.prog 39 #[] w fun r w' => ∃ g, r = .returned (lv 4 4 (.slice (some ⟨g, 0, none⟩) 25 25)) ∧ Ints w' (some ⟨g, 0, none⟩) 25 (fun _ => 0) ∧ Below w.heap.size w w' := by
  have hmk := mk25
  go_enter Try.func39, Try.ntmps39
  go_wp2_with fail
  refine bodyPost_ret (v := lv 4 4 (.slice (some ⟨w.heap.size + 1, 0, none⟩) 25 25)) (by simp [results, Try.results39, go_sem]) rfl ⟨w.heap.size + 1, rfl, ?_, Joins.below_alloc2 _ _ _⟩
  have h := ints_made 25 (w.alloc (.cells #[.int .i64 4, .int .i64 4, .slice (some ⟨w.heap.size + 1, 0, none⟩) 25 25] 24)) _ (Below.refl _ _)
  simpa using h
/-- The land and the waters of the document's example. -/
abbrev dK (g G : Nat) : Wat := ⟨4, 4, 25, 25, 16, 16, 0, 0, g, 0, G, 0, fun _ => 0, fun _ => 0, fun _ => 0, none⟩
theorem joined0 (g G : Nat) (w : World) (hl : Ints w (some ⟨g, 0, none⟩) 25 (fun _ => 0)) (hk : Ints w (some ⟨G, 0, none⟩) 16 (fun _ => 0)) :
    Calls Try.prog 23 #[lv 4 4 (.slice (some ⟨g, 0, none⟩) 25 25), .agg #[.slice (some ⟨G, 0, none⟩) 16 16, .slice none 0 0], .int .i64 0, .int .i64 0] w fun r w' => r = .returned (.tuple #[.bool true, .int .i64 0]) ∧ Below w.heap.size w w' :=
  joined_yes (dK g G) flat_good flat_fine (by show 0 ≤ 4000; omega) 0 0 true 0 (.inr (.inr ⟨rfl, ⟨by omega, by omega⟩, 0, rfl, by show 0 < 4 * 4; omega, flat_joi.symm⟩)) w hl hk (Ints.nil w _)
theorem sail0 (g G : Nat) (w : World) (hl : Ints w (some ⟨g, 0, none⟩) 25 (fun _ => 0)) (hk : Ints w (some ⟨G, 0, none⟩) 16 (fun _ => 0)) :
    Calls Try.prog 35 #[lv 4 4 (.slice (some ⟨g, 0, none⟩) 25 25), .agg #[.slice (some ⟨G, 0, none⟩) 16 16, .slice none 0 0], .int .i64 5, .int .i64 5] w fun r w' =>
      ∃ h cap, r = .returned (.tuple #[.slice (some ⟨h, 0, none⟩) 1 cap, .int .i64 0]) ∧ w'.cell? ⟨h, 0, none⟩ = some (.int .i64 5) ∧ h < w'.heap.size ∧ Below w.heap.size w w' := by
  refine (sail_yes (dK g G) flat_good flat_fine (by show 0 ≤ 4000; omega) 5 5 w hl hk (Ints.nil w _)).mono ?_
  rintro r w' ⟨L, e, hs, ao, cap, rfl, hrow, hb⟩
  have h5 : Sails (dK g G) 5 := ⟨5, rfl, by show 5 < 4 * 4; omega, flat_wet 5⟩
  rcases hs with ⟨_, _, h⟩ | ⟨u, v, b, hu, hv, hu2, hv2, hbf, h⟩
  · exact absurd ⟨h5, h5⟩ h
  · obtain rfl : u = 5 := by omega
    obtain rfl : v = 5 := by omega
    have hin := hbf.inv (S := 4 * 4) (by omega) (fun t ht => bes_in (W := 4) (H := 4) ⟨⟨by omega, by omega⟩, by omega, by omega⟩ (fun _ => 0) (fun _ => 0) ht)
    have hb5 : b 5 = some 5 := hin
    rcases h with ⟨_, _, h⟩ | ⟨rfl, h⟩
    · rw [hb5] at h; cases h
    · obtain rfl := h.one
      obtain ⟨g', c', e, _, hlt⟩ := hrow.form (by simp)
      cases e
      exact ⟨g', cap, rfl, by have := hrow.cellAt 0 (by simp); rw [this]; rfl, hlt, hb⟩
/-- The memory of known. -/
structure KW (w wr : World) : Prop where
  below : Below w.heap.size w wr
  size : w.heap.size + 1 < wr.heap.size
  a0 : wr.cell? ⟨w.heap.size + 1, 0, none⟩ = some (.slice (some ⟨w.heap.size, 0, none⟩) 16 16)
  a1 : wr.cell? ⟨w.heap.size + 1, 1, none⟩ = some (.slice none 0 0)
  kinds : Ints wr (some ⟨w.heap.size, 0, none⟩) 16 (fun _ => 0)
theorem KW.stays {w wr w' : World} (h : KW w wr) (k : Below wr.heap.size wr w') : KW w w' :=
  ⟨step h.below k, Nat.lt_of_lt_of_le h.size k.size, (k.cell (p := ⟨w.heap.size + 1, 0, none⟩) h.size).trans h.a0, (k.cell (p := ⟨w.heap.size + 1, 1, none⟩) h.size).trans h.a1, h.kinds.stays k⟩
theorem kw_keep {A : Nat} {w wr w' : World} {C : Prop} (hA : A = w.heap.size) (h : KW w wr ∧ C) (k : Below wr.heap.size wr w') :
    KW w w' ∧ w'.cell? ⟨A + 1, 0, none⟩ = some (.slice (some ⟨A, 0, none⟩) 16 16) ∧ w'.cell? ⟨A + 1, 1, none⟩ = some (.slice none 0 0) := by
  subst hA
  have h' := h.1.stays k
  exact ⟨h', h'.a0, h'.a1⟩
theorem kw_kinds {A : Nat} {w wr : World} {C : Prop} (hA : A = w.heap.size) (h : KW w wr ∧ C) : Ints wr (some ⟨A, 0, none⟩) 16 (fun _ => 0) := by
  subst hA
  exact h.1.kinds
theorem kw_below {w wr : World} {C : Prop} (h : KW w wr ∧ C) : Below w.heap.size w wr := h.1.below
theorem KW.start (w : World) : KW w ((w.alloc (.cells (madeCells #[.int .i64 0] 16) 3)).alloc (.cells #[.slice (some ⟨w.heap.size, 0, none⟩) 16 16, .slice none 0 0] 26)) :=
  ⟨Joins.below_alloc2 _ _ _, by simp, by simp, by simp, ints_made 16 w _ ((Below.refl _ _).alloc (by simp) _)⟩
set_option maxRecDepth 20000 in
set_option maxHeartbeats 6400000 in
theorem known_any (w : World) : Calls Try.prog 15 #[] w fun r w' => r = .returned (.bool true) ∧ Below w.heap.size w w' := by
  have hmk := mk16
  have HK := hid (KW.start w)
  obtain ⟨A, hA⟩ : ∃ A, A = w.heap.size := ⟨_, rfl⟩
  have HA := hid hA
  go_enter Try.func15, Try.ntmps15
  go_upto_region 2 with fail
  generalize World.alloc _ _ = w1 at HK ⊢
  have c0 := HK.out.a0
  have c1 := HK.out.a1
  have hz := HK.out.size
  simp only [← hA] at c0 c1 hz ⊢
  clear hA hmk
  go_wp2_with fail
  go_region_held3 (fun w' => KW w w' ∧ w'.cell? ⟨A + 1, 0, none⟩ = some (.slice (some ⟨A, 0, none⟩) 16 16) ∧ w'.cell? ⟨A + 1, 1, none⟩ = some (.slice none 0 0))
    (first
      | exact kw_keep HA.out (And.intro HK.out trivial) ((Below.refl _ _).drew)
      | exact kw_keep HA.out (by assumption) hb
      | assumption)
    (first
      | (go_at_call 39; (refine (sea0_any _).mono ?_); rintro e wx ⟨g, rfl, hsea, hb⟩)
      | (go_at_call 23; (refine (joined0 _ _ _ (by assumption) (kw_kinds HA.out (by assumption))).mono ?_); rintro e wx ⟨rfl, hb⟩))
  rename_i hh
  have HK2 := hid hh.1
  clear hh HK c0 c1 hz hsea hb
  go_upto_region 3 with fail
  have c0 := HK2.out.a0
  have c1 := HK2.out.a1
  have hz := HK2.out.size
  simp only [← HA.out] at c0 c1 hz
  go_wp2_with fail
  go_region_held3 (fun w' => KW w w' ∧ w'.cell? ⟨A + 1, 0, none⟩ = some (.slice (some ⟨A, 0, none⟩) 16 16) ∧ w'.cell? ⟨A + 1, 1, none⟩ = some (.slice none 0 0))
    (first
      | exact kw_keep HA.out (And.intro HK2.out trivial) ((Below.refl _ _).drew)
      | exact kw_keep HA.out (by assumption) hb
      | assumption)
    (first
      | (go_at_call 39; (refine (sea0_any _).mono ?_); rintro e wx ⟨g, rfl, hsea, hb⟩)
      | (go_at_call 35; (refine (sail0 _ _ _ (by assumption) (kw_kinds HA.out (by assumption))).mono ?_); rintro e wx ⟨sl, scap, rfl, hcell, hlt, hb⟩))
  rename_i hh
  have HK3 := hid hh.1
  clear hh HK2 c0 c1 hz hsea hb
  go_wp2_with fail
  go_ret
  exact ⟨rfl, HK3.out.below⟩
end Go.Proofs.Ytkpnngpnjimogaa
