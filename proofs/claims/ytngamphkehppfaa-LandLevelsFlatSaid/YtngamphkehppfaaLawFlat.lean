/-
  The walk of the law that one tile is made flat at any height.
-/
import Derived.Test.YtngamphkehppfaaWalkLev
import Derived.Test.YtngamphkehppfaaWalkFace
namespace Go.Proofs.Ytngamphkehppfaa
open Go.RowKit

theorem stB_free (W H n : Nat) (F : Nat → Int) (h : Int) (p : Nat) (Y : Nat → Int) : stB W H n 0 F h p Y = false := by
  unfold stB
  rw [List.any_eq_false]
  intro i _
  show ¬ false = true
  simp
theorem brg_free (W H n : Nat) (F : Nat → Int) (h : Int) (p : Nat) (Z : Nat → Int) (j : Nat) : ∃ c Y, brg W H n 0 F h p Z j = some (c, Y) := by
  induction j with
  | zero => exact ⟨0, Z, rfl⟩
  | succ j ih =>
    obtain ⟨c, Y, e⟩ := ih
    exact ⟨_, _, brg_yes e (stB_free _ _ _ _ _ _ _)⟩
theorem lev_free (W H n : Nat) (F : Nat → Int) (h : Int) (P : Nat → Nat) (Z : Nat → Int) (k : Nat) : ∃ C Y, lev W H n 0 F h P Z k = some (C, Y) := by
  induction k with
  | zero => exact ⟨0, Z, rfl⟩
  | succ k ih =>
    obtain ⟨C, Y, e⟩ := ih
    obtain ⟨c, X, e2⟩ := brg_free W H n F h (P k) Y (h - Y (P k)).natAbs
    exact ⟨_, _, lev_yes e e2⟩
theorem flat_slope {W u : Nat} {X : Nat → Int} {h : Int} (hx : ∀ q, q < 4 → X (pl W u q) = h) : slope W X u = 0 ∧ base W X u = h := by
  have e0 : X (nw W u) = h := hx 0 (by omega)
  have e1 : X (nw W u + 1) = h := hx 1 (by omega)
  have e2 : X (nw W u + W + 2) = h := hx 2 (by omega)
  have e3 : X (nw W u + W + 1) = h := hx 3 (by omega)
  have hb : base W X u = h := by unfold base mn4; rw [e0, e1, e2, e3]; omega
  refine ⟨?_, hb⟩
  unfold slope
  rw [hb, e0, e1, e2, e3]
  have h1 : ¬ h + 1 < h := by omega
  have h2 : ¬ h < h := by omega
  simp [slP, at4, h1, h2]
/-- Level refuses ahead of all work. -/
theorem level_no (W H : Int) (ao : Option Addr) (n cap : Nat) (Z : Nat → Int) (hn : n ≤ 9223372036854775807) (tl : Option Addr) (k capt : Nat) (hk : k ≤ 9223372036854775807) (T : Nat → Int) (h : Int) (f : Value) (w : World) (hI : Ints w ao n Z) (hT : Ints w tl k T) (e : Int) (he : LErr W H n Z k T h e) :
    Calls Try.prog 37 #[lv W H (.slice ao n cap), .slice tl k capt, .int .i64 h, f] w fun r w' => r = .returned (none3 e) ∧ Below w.heap.size w w' := by
  rcases he with ⟨h0, hE⟩ | ⟨rfl, hV, ha⟩ | ⟨rfl, W', H', rfl, rfl, hg, hh, hk2, hf⟩
  · exact level_bad W H ao n cap Z hn tl k capt h _ w hI e h0 hE
  · exact level_arg W H ao n cap Z hn tl k capt hk h _ w hI hV ha
  · exact level_none W' H' ao n cap Z hg tl k capt hk2 T h hh hf _ w hI hT
theorem LErr.ne {W H : Int} {n : Nat} {Z : Nat → Int} {k : Nat} {T : Nat → Int} {h e : Int} (he : LErr W H n Z k T h e) : e ≠ 0 := by
  rcases he with ⟨h0, _⟩ | ⟨h0, _⟩ | ⟨h0, _⟩
  · exact h0
  all_goals omega
theorem one_int (w : World) (t : Int) : Ints (w.alloc (.cells #[.int .i64 t] 3)) (some ⟨w.heap.size, 0, none⟩) 1 (fun _ => t) := fun j hj => by
  obtain rfl : j = 0 := by omega
  exact ⟨w.heap.size, 0, rfl, by simp, by simp⟩

set_option maxRecDepth 20000 in
set_option maxHeartbeats 3200000 in
theorem flat_large (W H : Int) (ao : Option Addr) (n cap : Nat) (Z : Nat → Int) (hn : n ≤ 9223372036854775807) (t h : Int) (h1 : 4000 < n) (w : World) (hI : Ints w ao n Z) :
    Calls Try.prog 13 #[lv W H (.slice ao n cap), .int .i64 t, .int .i64 h] w fun r w' => r = .returned (.bool true) ∧ Below w.heap.size w w' := by
  have HL := hid (lb_start (W := W) (H := H) (cap := cap) hI)
  clear hI
  go_enter Try.func13, Try.ntmps13
  go_wp2_with fail
  refine (large0_yes W H ao n cap hn h1 _).mono ?_
  rintro r w1 ⟨rfl, hb1⟩
  have HL1 := hid (HL.out.stays hb1)
  clear hb1
  go_wp2_with fail
  refine (known_any _).mono ?_
  rintro r w2 ⟨rfl, hb2⟩
  go_wp2
  go_ret
  exact ⟨rfl, (HL1.out.stays hb2).below⟩

set_option maxRecDepth 20000 in
set_option maxHeartbeats 3200000 in
theorem flat_bad (W H : Int) (ao : Option Addr) (n cap : Nat) (Z : Nat → Int) (hn : n ≤ 4000) (t h : Int) (e : Int) (h0 : e ≠ 0) (hE : VErr W H n Z e) (w : World) (hI : Ints w ao n Z) :
    Calls Try.prog 13 #[lv W H (.slice ao n cap), .int .i64 t, .int .i64 h] w fun r w' => r = .returned (.bool true) ∧ Below w.heap.size w w' := by
  have HL := hid (lb_start (W := W) (H := H) (cap := cap) hI)
  have HE := hid hE
  have g : (e != 0) = true := by simpa using h0
  have HLE : Hid (LErr W H n Z 1 (fun _ => t) h e) := hid (.inl ⟨h0, hE⟩)
  clear hI hE
  go_enter Try.func13, Try.ntmps13
  go_wp2_with fail
  refine (large0_no W H ao n cap hn _).mono ?_
  rintro r w1 ⟨rfl, hb1⟩
  have HL1 := hid ((HL.out.stays hb1).stays (Joins.below_alloc1 w1 (.cells #[.int .i64 t] 3)))
  have HT1 := hid (one_int w1 t)
  have hL0 := HL.out.stays hb1
  have c0 := hL0.c0
  have c1 := hL0.c1
  have c2 := hL0.c2
  have cz := hL0.size
  clear hb1 HL hL0
  go_wp2_with fail
  refine (level_no W H ao n cap Z (by omega) _ 1 1 (by omega) (fun _ => t) h (.slice none 0 0) _ HL1.out.ints HT1.out e HLE.out).mono ?_
  rintro r w2 ⟨rfl, hb2⟩
  have HL2 := hid ((HL1.out.stays hb2).stays (Joins.below_alloc1 w2 (.cells #[.int .i64 0, .int .i64 0, .slice none 0 0] 24)))
  clear hb2 c0 c1 c2 cz HL1 HT1
  have c0 := HL2.out.c0
  have c1 := HL2.out.c1
  have c2 := HL2.out.c2
  go_wp2_with fail
  refine (validate_any W H ao n cap Z (by omega) _ HL2.out.ints e HE.out).mono ?_
  rintro r w3 ⟨rfl, hb3⟩
  have HL3 := hid (HL2.out.stays hb3)
  clear hb3 c0 c1 c2 HL2
  go_wp2_with fail
  refine (known_any _).mono ?_
  rintro r w4 ⟨rfl, hb4⟩
  go_wp2
  go_ret
  exact ⟨rfl, (HL3.out.stays hb4).below⟩

set_option maxRecDepth 20000 in
set_option maxHeartbeats 3200000 in
theorem flat_no (W H : Nat) (ao : Option Addr) (n cap : Nat) (Z : Nat → Int) (hg : Good W H n Z) (t h : Int) (e : Int) (he : LErr W H n Z 1 (fun _ => t) h e) (hc : tileB W H t = false ∨ (tileB W H t = true ∧ h < 0) ∨ (tileB W H t = true ∧ 0 ≤ h ∧ 15 < h)) (w : World) (hI : Ints w ao n Z) :
    Calls Try.prog 13 #[lv W H (.slice ao n cap), .int .i64 t, .int .i64 h] w fun r w' => r = .returned (.bool true) ∧ Below w.heap.size w w' := by
  have HL := hid (lb_start (W := W) (H := H) (cap := cap) hI)
  have HE := hid hg.err
  obtain ⟨hW1, hW2, hH1, hH2⟩ := hg.side
  have hlb := hg.shaped.bound
  have g : (e != 0) = true := by simpa using he.ne
  have HLE := hid he
  clear hI hg he
  rcases hc with hc | ⟨hc, h1⟩ | ⟨hc, h1, h2⟩
  all_goals
    have HC := hid hc
    clear hc
    go_enter Try.func13, Try.ntmps13
    go_wp2_with fail
    refine (large0_no W H ao n cap (by omega) _).mono ?_
    rintro r w1 ⟨rfl, hb1⟩
    have HL1 := hid ((HL.out.stays hb1).stays (Joins.below_alloc1 w1 (.cells #[.int .i64 t] 3)))
    have HT1 := hid (one_int w1 t)
    have hL0 := HL.out.stays hb1
    have c0 := hL0.c0
    have c1 := hL0.c1
    have c2 := hL0.c2
    have cz := hL0.size
    clear hb1 HL hL0
    go_wp2_with fail
    refine (level_no W H ao n cap Z (by omega) _ 1 1 (by omega) (fun _ => t) h (.slice none 0 0) _ HL1.out.ints HT1.out e HLE.out).mono ?_
    rintro r w2 ⟨rfl, hb2⟩
    have HL2 := hid ((HL1.out.stays hb2).stays (Joins.below_alloc1 w2 (.cells #[.int .i64 0, .int .i64 0, .slice none 0 0] 24)))
    clear hb2 c0 c1 c2 cz HL1 HT1
    have c0 := HL2.out.c0
    have c1 := HL2.out.c1
    have c2 := HL2.out.c2
    go_wp2_with fail
    refine (validate_any W H ao n cap Z (by omega) _ HL2.out.ints 0 HE.out).mono ?_
    rintro r w3 ⟨rfl, hb3⟩
    have HL3 := hid (HL2.out.stays hb3)
    clear hb3 c0 c1 c2 HL2
    have c0 := HL3.out.c0
    have c1 := HL3.out.c1
    have c2 := HL3.out.c2
    go_wp2_with fail
    refine (is_any W H hW2 hH2 _ t _).mono ?_
    rw [HC.out]
    rintro r w4 ⟨rfl, hw4⟩
    have HL4 := hid (HL3.out.stays (Joins.below_alloc1 w3 (.cells #[.int .i64 W, .int .i64 H, .slice ao n cap] 24)))
    rw [hw4] at HL4
    clear hw4 c0 c1 c2 HL3
    go_wp2_with fail
    refine (known_any _).mono ?_
    rintro r w5 ⟨rfl, hb5⟩
    go_wp2
    go_ret
    exact ⟨rfl, (HL4.out.stays hb5).below⟩

set_option maxRecDepth 20000 in
set_option maxHeartbeats 3200000 in
theorem flat_ok (W H : Nat) (ao : Option Addr) (n cap : Nat) (Z : Nat → Int) (hg : Good W H n Z) (u : Nat) (hu : u < W * H) (h : Int) (hh : 0 ≤ h ∧ h ≤ 15) (w : World) (hI : Ints w ao n Z) :
    Calls Try.prog 13 #[lv W H (.slice ao n cap), .int .i64 u, .int .i64 h] w fun r w' => r = .returned (.bool true) ∧ Below w.heap.size w w' := by
  have HL := hid (lb_start (W := W) (H := H) (cap := cap) hI)
  have HG := hid hg
  have HE := hid hg.err
  obtain ⟨hW1, hW2, hH1, hH2⟩ := hg.side
  have hlb := hg.shaped.bound
  have HU := hid hu
  have HTY := hid (tile_yes hu)
  have hP : ∀ i, i < 4 → plc W (fun _ => (u : Int)) i = pl W u i := fun i hi => by
    have := plc_at W (fun _ => (u : Int)) 0 i hi
    rw [Nat.mul_zero, Nat.zero_add, Int.toNat_natCast] at this
    exact this
  obtain ⟨C, X, hs⟩ := lev_free W H n (fun _ => 0) h (plc W (fun _ => (u : Int))) Z (4 * 1)
  have hlv := lev_inv hg hh 4 C X (fun i hi => by rw [hP i hi]; exact pl_lt hg hu i) hs
  have hfl := flat_slope (W := W) (u := u) (X := X) (h := h) (fun q hq => by rw [← hP q hq]; exact hlv.flat q hq)
  have HX := hid hlv.good
  have hC : C ≤ 100000 := by
    have := hlv.cost
    have : 4 * (15 * n) ≤ 4 * (15 * 1089) := Nat.mul_le_mul (by omega) (by omega)
    omega
  have HS := hid hs
  have HFL := hid hfl
  have HH := hid hh
  obtain ⟨h1, h2⟩ := hh
  clear hI hg hu hP hs hlv hfl
  go_enter Try.func13, Try.ntmps13
  go_wp2_with fail
  refine (large0_no W H ao n cap (by omega) _).mono ?_
  rintro r w1 ⟨rfl, hb1⟩
  have HL1 := hid ((HL.out.stays hb1).stays (Joins.below_alloc1 w1 (.cells #[.int .i64 u] 3)))
  have HT1 := hid (one_int w1 u)
  have hL0 := HL.out.stays hb1
  have c0 := hL0.c0
  have c1 := hL0.c1
  have c2 := hL0.c2
  have cz := hL0.size
  clear hb1 HL hL0
  go_wp2_with fail
  refine (level_go W H ao n cap Z HG.out _ 1 1 (by omega) (fun _ => (u : Int)) h HH.out (fun _ _ => HTY.out) none 0 0 (by omega) (fun _ => 0) _ HL1.out.ints HT1.out (Ints.nil _ _)).mono ?_
  rintro r w2 ⟨hb2, ⟨hno, _⟩ | ⟨C', X', go, gc, hs', rfl, hix⟩⟩
  · rw [HS.out] at hno; cases hno
  rw [HS.out] at hs'
  cases hs'
  have ka := Joins.below_alloc1 w2 (.cells #[.int .i64 W, .int .i64 H, .slice go n gc] 24)
  have HL2 := hid ((HL1.out.stays hb2).stays ka)
  have HIX := hid (hix.stays ka)
  clear hb2 c0 c1 c2 cz HL1 HT1 hix ka
  have c0 := HL2.out.c0
  have c1 := HL2.out.c1
  have c2 := HL2.out.c2
  obtain ⟨b1, hb1⟩ : ∃ b, b = w2.heap.size := ⟨_, rfl⟩
  have a0 : (w2.alloc (.cells #[.int .i64 W, .int .i64 H, .slice go n gc] 24)).cell? ⟨b1, 0, none⟩ = some (.int .i64 W) := by rw [hb1]; simp
  have a1 : (w2.alloc (.cells #[.int .i64 W, .int .i64 H, .slice go n gc] 24)).cell? ⟨b1, 1, none⟩ = some (.int .i64 H) := by rw [hb1]; simp
  have a2 : (w2.alloc (.cells #[.int .i64 W, .int .i64 H, .slice go n gc] 24)).cell? ⟨b1, 2, none⟩ = some (.slice go n gc) := by rw [hb1]; simp
  have az : b1 < (w2.alloc (.cells #[.int .i64 W, .int .i64 H, .slice go n gc] 24)).heap.size := by rw [hb1]; simp
  go_wp2_with fail
  simp only [← hb1]
  have HB1 := hid hb1
  clear hb1
  generalize w2.alloc (.cells #[.int .i64 W, .int .i64 H, .slice go n gc] 24) = w3 at *
  refine (validate_any W H ao n cap Z (by omega) _ HL2.out.ints 0 HE.out).mono ?_
  rintro r w4 ⟨rfl, hb4⟩
  have HL4 := hid (HL2.out.stays hb4)
  have HIX4 := hid (HIX.out.stays hb4)
  have a0' := (hb4.cell (p := ⟨b1, 0, none⟩) az).trans a0
  have a1' := (hb4.cell (p := ⟨b1, 1, none⟩) az).trans a1
  have a2' := (hb4.cell (p := ⟨b1, 2, none⟩) az).trans a2
  have az' : b1 < w4.heap.size := Nat.lt_of_lt_of_le az hb4.size
  clear hb4 c0 c1 c2 HL2 HIX a0 a1 a2 az
  have c0 := HL4.out.c0
  have c1 := HL4.out.c1
  have c2 := HL4.out.c2
  go_wp2_with fail
  refine (is_any W H hW2 hH2 _ u _).mono ?_
  rw [HTY.out]
  rintro r w5 ⟨rfl, hw5⟩
  have kb := Joins.below_alloc1 w4 (.cells #[.int .i64 W, .int .i64 H, .slice ao n cap] 24)
  have HL5 := hid (HL4.out.stays kb)
  have HIX5 := hid (HIX4.out.stays kb)
  have a0 := (kb.cell (p := ⟨b1, 0, none⟩) az').trans a0'
  have a1 := (kb.cell (p := ⟨b1, 1, none⟩) az').trans a1'
  have a2 := (kb.cell (p := ⟨b1, 2, none⟩) az').trans a2'
  rw [hw5] at HL5 HIX5 a0 a1 a2
  clear hw5 kb c0 c1 c2 HL4 HIX4 a0' a1' a2' az'
  go_wp2_with fail
  refine (slope_ok W H go n gc X HX.out u HU.out _ HIX5.out).mono ?_
  rw [HFL.out.1, HFL.out.2]
  rintro r w6 ⟨rfl, hb6⟩
  have HL6 := hid (HL5.out.stays hb6)
  clear hb6 a0 a1 a2
  go_wp2_with fail
  refine (known_any _).mono ?_
  rintro r w7 ⟨rfl, hb7⟩
  go_wp2
  go_ret
  exact ⟨rfl, (HL6.out.stays hb7).below⟩

theorem walk_flat (W H : Int) (ao : Option Addr) (n cap : Nat) (Z : Nat → Int) (hn : n ≤ 9223372036854775807) (t h : Int) (w : World) (hI : Ints w ao n Z) :
    Calls Try.prog 13 #[lv W H (.slice ao n cap), .int .i64 t, .int .i64 h] w fun r w' => r = .returned (.bool true) ∧ Below w.heap.size w w' := by
  by_cases h1 : 4000 < n
  · exact flat_large W H ao n cap Z hn t h h1 w hI
  · rcases level_cases W H n Z 1 (fun _ => t) h with ⟨e, he⟩ | ⟨W', H', rfl, rfl, hg, hh, _, hf⟩
    · rcases id he with ⟨h0, hE⟩ | ⟨rfl, hV, ha⟩ | ⟨rfl, W', H', rfl, rfl, hg, hh, hk2, i, hi, hf⟩
      · exact flat_bad W H ao n cap Z (by omega) t h e h0 hE w hI
      · obtain ⟨W', H', rfl, rfl, hg⟩ := hV.good
        refine flat_no W' H' ao n cap Z hg t h 1 he ?_ w hI
        cases ht : tileB W' H' t with
        | false => exact .inl rfl
        | true =>
          rcases ha with ha | ha
          · by_cases q : h < 0
            · exact .inr (.inl ⟨rfl, q⟩)
            · exact .inr (.inr ⟨rfl, by omega, by omega⟩)
          · omega
      · exact flat_no W' H' ao n cap Z hg t h 2 he (.inl hf) w hI
    · have ht : tileB W' H' t = true := hf 0 (by omega)
      obtain ⟨u, rfl, hu⟩ : ∃ u : Nat, t = u ∧ u < W' * H' := by unfold tileB at ht; simp at ht; exact ⟨t.toNat, by omega, by omega⟩
      exact flat_ok W' H' ao n cap Z hg u hu h hh w hI
end Go.Proofs.Ytngamphkehppfaa
