/-
  The walks of Snow, and of the law on snow.
-/
import Derived.Test.YtngamphkehppfaaLawSlopes
namespace Go.Proofs.Ytngamphkehppfaa
open Go.RowKit

/-- A climate and a month that there are. -/
def Clime (c m : Int) : Prop := 0 ≤ c ∧ c ≤ 3 ∧ 1 ≤ m ∧ m ≤ 12
/-- Does snow lie above a base? -/
def snowB (bs c m : Int) : Bool := if c = 1 then decide (10 - dist m 7 ≤ bs) else if c = 3 then decide (7 - dist m 7 / 2 ≤ bs) else false

set_option maxHeartbeats 1600000 in
theorem snow_no (W H : Int) (ao : Option Addr) (n cap : Nat) (Z : Nat → Int) (hn : n ≤ 9223372036854775807) (t c m : Int) (w : World) (hI : Ints w ao n Z) (e : Int) (hE : TErr W H n Z t e) :
    Calls Try.prog 39 #[lv W H (.slice ao n cap), .int .i64 t, .int .i64 c, .int .i64 m] w fun r w' => r = .returned (.tuple #[.bool false, .int .i64 e]) ∧ Below w.heap.size w w' := by
  have HL := hid (lb_start (W := W) (H := H) (cap := cap) hI)
  have HE := hid hE
  have g : (e != 0) = true := by simpa using hE.ne
  clear hI hE
  go_enter Try.func39, Try.ntmps39
  go_wp2_with fail
  refine (vt_no W H ao n cap Z hn t _ HL.out.ints e HE.out).mono ?_
  rintro r w1 ⟨rfl, hb1⟩
  go_wp2_with fail
  go_ret2
  exact ⟨rfl, (HL.out.stays hb1).below⟩
set_option maxHeartbeats 1600000 in
theorem refsnow_no (W H : Int) (ao : Option Addr) (n cap : Nat) (Z : Nat → Int) (hn : n ≤ 9223372036854775807) (t c m : Int) (w : World) (hI : Ints w ao n Z) (e : Int) (hE : TErr W H n Z t e) :
    Calls Try.prog 40 #[lv W H (.slice ao n cap), .int .i64 t, .int .i64 c, .int .i64 m] w fun r w' => r = .returned (.tuple #[.bool false, .int .i64 e]) ∧ Below w.heap.size w w' := by
  have HL := hid (lb_start (W := W) (H := H) (cap := cap) hI)
  clear hI
  rcases hE with ⟨h0, hE⟩ | ⟨rfl, W', H', rfl, rfl, hg, ht⟩
  · have HE := hid hE
    have g : (e != 0) = true := by simpa using h0
    clear hE
    go_enter Try.func40, Try.ntmps40
    go_wp2_with fail
    refine (refvalidate_any W H ao n cap Z hn _ HL.out.ints e HE.out).mono ?_
    rintro r w1 ⟨rfl, hb1⟩
    go_wp2_with fail
    go_ret2
    exact ⟨rfl, (HL.out.stays hb1).below⟩
  · have HE := hid hg.err
    have HT := hid ht
    obtain ⟨hW1, hW2, hH1, hH2⟩ := hg.side
    clear hg ht
    go_enter Try.func40, Try.ntmps40
    go_wp2_with fail
    refine (refvalidate_any W' H' ao n cap Z hn _ HL.out.ints 0 HE.out).mono ?_
    rintro r w1 ⟨rfl, hb1⟩
    have HL1 := hid (HL.out.stays hb1)
    have c0 := HL1.out.c0
    have c1 := HL1.out.c1
    have c2 := HL1.out.c2
    have hz := HL1.out.size
    clear hb1
    go_wp2_with (go_at_call 31; refine (is_any W' H' hW2 hH2 _ t _).mono ?_; rw [HT.out]; rintro e w' ⟨rfl, rfl⟩)
    go_ret2
    exact ⟨rfl, add HL1.out.below _⟩

set_option maxHeartbeats 1600000 in
theorem snow_arg (W H : Nat) (ao : Option Addr) (n cap : Nat) (Z : Nat → Int) (hg : Good W H n Z) (u : Nat) (hu : u < W * H) (c m : Int) (hc : ¬ Clime c m) (w : World) (hI : Ints w ao n Z) :
    Calls Try.prog 39 #[lv W H (.slice ao n cap), .int .i64 u, .int .i64 c, .int .i64 m] w fun r w' => r = .returned (.tuple #[.bool false, .int .i64 1]) ∧ Below w.heap.size w w' := by
  have HL := hid (lb_start (W := W) (H := H) (cap := cap) hI)
  have HG := hid hg
  have HU := hid hu
  have HC := hid hc
  clear hI hg hu hc
  by_cases o1 : c < 0
  all_goals by_cases o2 : 4 ≤ c
  all_goals by_cases o3 : m < 1
  all_goals by_cases o4 : 12 < m
  all_goals first
    | (exfalso; omega)
    | (exfalso; apply HC.out; unfold Clime; omega)
    | (go_enter Try.func39, Try.ntmps39
       go_wp2_with fail
       refine (vt_ok W H ao n cap Z HG.out u HU.out _ HL.out.ints).mono ?_
       rintro r w1 ⟨rfl, hb1⟩
       go_wp2_with fail
       go_ret2
       exact ⟨rfl, (HL.out.stays hb1).below⟩)
set_option maxHeartbeats 1600000 in
theorem refsnow_arg (W H : Nat) (ao : Option Addr) (n cap : Nat) (Z : Nat → Int) (hg : Good W H n Z) (u : Nat) (hu : u < W * H) (c m : Int) (hc : ¬ Clime c m) (w : World) (hI : Ints w ao n Z) :
    Calls Try.prog 40 #[lv W H (.slice ao n cap), .int .i64 u, .int .i64 c, .int .i64 m] w fun r w' => r = .returned (.tuple #[.bool false, .int .i64 1]) ∧ Below w.heap.size w w' := by
  have HL := hid (lb_start (W := W) (H := H) (cap := cap) hI)
  have HE := hid hg.err
  have HU := hid hu
  have HC := hid hc
  have HT := hid (tile_yes hu)
  obtain ⟨hW1, hW2, hH1, hH2⟩ := hg.side
  have hlb := hg.shaped.bound
  clear hI hg hu hc
  by_cases o1 : c < 0
  all_goals by_cases o2 : 3 < c
  all_goals by_cases o3 : m < 1
  all_goals by_cases o4 : 12 < m
  all_goals first
    | (exfalso; omega)
    | (exfalso; apply HC.out; unfold Clime; omega)
    | (go_enter Try.func40, Try.ntmps40
       go_wp2_with fail
       refine (refvalidate_any W H ao n cap Z (by omega) _ HL.out.ints 0 HE.out).mono ?_
       rintro r w1 ⟨rfl, hb1⟩
       have HL1 := hid (HL.out.stays hb1)
       have c0 := HL1.out.c0
       have c1 := HL1.out.c1
       have c2 := HL1.out.c2
       have hz := HL1.out.size
       clear hb1
       go_wp2_with (go_at_call 31; refine (is_any W H hW2 hH2 _ u _).mono ?_; rw [HT.out]; rintro e w' ⟨rfl, rfl⟩)
       go_ret2
       exact ⟨rfl, add HL1.out.below _⟩)

set_option maxHeartbeats 3200000 in
theorem snow_ok (W H : Nat) (ao : Option Addr) (n cap : Nat) (Z : Nat → Int) (hg : Good W H n Z) (u : Nat) (hu : u < W * H) (c m : Int) (hc : Clime c m) (w : World) (hI : Ints w ao n Z) :
    Calls Try.prog 39 #[lv W H (.slice ao n cap), .int .i64 u, .int .i64 c, .int .i64 m] w fun r w' => r = .returned (.tuple #[.bool (snowB (base W Z u) c m), .int .i64 0]) ∧ Below w.heap.size w w' := by
  have HL := hid (lb_start (W := W) (H := H) (cap := cap) hI)
  have HG := hid hg
  have HU := hid hu
  have hp : nw W u + W + 2 < n := by rw [hg.len]; exact nw_lt hu
  have h0 := hg.high (nw W u) (by omega)
  have h1 := hg.high (nw W u + 1) (by omega)
  have h2 := hg.high (nw W u + W + 2) (by omega)
  have h3 := hg.high (nw W u + W + 1) (by omega)
  unfold base
  obtain ⟨z0, e0⟩ : ∃ z, z = Z (nw W u) := ⟨_, rfl⟩
  obtain ⟨z1, e1⟩ : ∃ z, z = Z (nw W u + 1) := ⟨_, rfl⟩
  obtain ⟨z2, e2⟩ : ∃ z, z = Z (nw W u + W + 2) := ⟨_, rfl⟩
  obtain ⟨z3, e3⟩ : ∃ z, z = Z (nw W u + W + 1) := ⟨_, rfl⟩
  have E := hid (And.intro e0 (And.intro e1 (And.intro e2 e3)))
  rw [← e0] at h0 ⊢
  rw [← e1] at h1 ⊢
  rw [← e2] at h2 ⊢
  rw [← e3] at h3 ⊢
  obtain ⟨bs, hbs⟩ : ∃ m, m = mn4 z0 z1 z2 z3 := ⟨_, rfl⟩
  have hb0 : 0 ≤ bs := by rw [hbs]; unfold mn4; omega
  have hb1 : bs ≤ 15 := by rw [hbs]; unfold mn4; omega
  rw [← hbs]
  have HB := hid hbs
  obtain ⟨d, hd⟩ : ∃ d, d = dist m 7 := ⟨_, rfl⟩
  have hd0 : 0 ≤ d := by rw [hd]; exact dist_nn _ _
  obtain ⟨q1, q2, q3, q4⟩ := hc
  have hd1 : d ≤ 6 := by rw [hd, dist_le]; omega
  obtain ⟨x, hx⟩ : ∃ x, x = snowB bs c m := ⟨_, rfl⟩
  unfold snowB at hx
  rw [← hd] at hx
  have hx' : snowB bs c m = x := by rw [hx, hd]; rfl
  rw [hx']
  have HX := hid hx
  have HD := hid hd
  clear hI hg hu e0 e1 e2 e3 hp hbs hd hx hx'
  go_enter Try.func39, Try.ntmps39
  go_wp2_with fail
  refine (vt_ok W H ao n cap Z HG.out u HU.out _ HL.out.ints).mono ?_
  rintro r w1 ⟨rfl, hw1⟩
  have HL1 := hid (HL.out.stays hw1)
  have c0 := HL1.out.c0
  have c1 := HL1.out.c1
  have c2 := HL1.out.c2
  have hz := HL1.out.size
  clear hw1
  go_wp2_with fail
  refine (heights_any W H ao n cap Z HG.out u HU.out _ HL1.out.ints).mono ?_
  rintro r w2 ⟨rfl, hb2⟩
  unfold fourH
  rw [← E.out.1, ← E.out.2.1, ← E.out.2.2.1, ← E.out.2.2.2]
  have HL2 := hid ((HL1.out.stays hb2).stays (Joins.below_alloc1 _ (.cells #[.int .i64 z0, .int .i64 z1, .int .i64 z2, .int .i64 z3] 78)))
  clear hb2 c0 c1 c2 HL
  have key : ∀ b : Bool, b = x → Ending.returned (.tuple #[.bool b, .int .i64 0]) = Ending.returned (.tuple #[.bool x, .int .i64 0]) := fun b h => by rw [h]
  have HK := hid key
  clear key
  go_wp2_with (first
    | (go_at_call 56; refine (min_any _ _ z0 z1 z2 z3 _ (by simp) (by simp) (by simp) (by simp)).mono ?_; rw [← HB.out]; rintro e w' ⟨rfl, rfl⟩)
    | (go_at_call 45; refine (distance_any _ _ (by omega) (by omega) (by omega) (by omega) _).mono ?_; rw [← HD.out]; rintro e w' ⟨rfl, rfl⟩))
  · have g : c = 1 := by simpa using (show (c == 1) = true by assumption)
    go_ret2
    exact ⟨HK.out _ (by rw [HX.out, if_pos g]), HL2.out.below⟩
  · have g : ¬ c = 1 := by simpa using (show (c == 1) = false by assumption)
    have g2 : c = 3 := by simpa using (show (c == 3) = true by assumption)
    go_ret2
    exact ⟨HK.out _ (by rw [HX.out, if_neg g, if_pos g2]), HL2.out.below⟩
  · have g : ¬ c = 1 := by simpa using (show (c == 1) = false by assumption)
    have g2 : ¬ c = 3 := by simpa using (show (c == 3) = false by assumption)
    go_ret2
    exact ⟨HK.out _ (by rw [HX.out, if_neg g, if_neg g2]), HL2.out.below⟩

set_option maxHeartbeats 3200000 in
theorem refsnow_ok (W H : Nat) (ao : Option Addr) (n cap : Nat) (Z : Nat → Int) (hg : Good W H n Z) (u : Nat) (hu : u < W * H) (c m : Int) (hc : Clime c m) (w : World) (hI : Ints w ao n Z) :
    Calls Try.prog 40 #[lv W H (.slice ao n cap), .int .i64 u, .int .i64 c, .int .i64 m] w fun r w' => r = .returned (.tuple #[.bool (snowB (base W Z u) c m), .int .i64 0]) ∧ Below w.heap.size w w' := by
  have HL := hid (lb_start (W := W) (H := H) (cap := cap) hI)
  have HE := hid hg.err
  have HG := hid hg
  have HU := hid hu
  have HT := hid (tile_yes hu)
  obtain ⟨hW1, hW2, hH1, hH2⟩ := hg.side
  have hlb := hg.shaped.bound
  have hp : nw W u + W + 2 < n := by rw [hg.len]; exact nw_lt hu
  have h0 := hg.high (nw W u) (by omega)
  have h1 := hg.high (nw W u + 1) (by omega)
  have h2 := hg.high (nw W u + W + 2) (by omega)
  have h3 := hg.high (nw W u + W + 1) (by omega)
  obtain ⟨bs, hbs⟩ : ∃ b, b = base W Z u := ⟨_, rfl⟩
  have hb0 : 0 ≤ bs := by rw [hbs]; unfold base mn4; omega
  have hb1 : bs ≤ 15 := by rw [hbs]; unfold base mn4; omega
  rw [← hbs]
  have HB := hid hbs
  obtain ⟨d, hd⟩ : ∃ d, d = dist m 7 := ⟨_, rfl⟩
  have hd0 : 0 ≤ d := by rw [hd]; exact dist_nn _ _
  obtain ⟨q1, q2, q3, q4⟩ := hc
  have hd1 : d ≤ 6 := by rw [hd, dist_le]; omega
  obtain ⟨x, hx⟩ : ∃ x, x = snowB bs c m := ⟨_, rfl⟩
  unfold snowB at hx
  rw [← hd] at hx
  have hx' : snowB bs c m = x := by rw [hx, hd]; rfl
  rw [hx']
  have HX := hid hx
  have HD := hid hd
  clear hI hg hu hp hbs hd hx hx' h0 h1 h2 h3
  go_enter Try.func40, Try.ntmps40
  go_wp2_with fail
  refine (refvalidate_any W H ao n cap Z (by omega) _ HL.out.ints 0 HE.out).mono ?_
  rintro r w1 ⟨rfl, hw1⟩
  have HL1 := hid (HL.out.stays hw1)
  have c0 := HL1.out.c0
  have c1 := HL1.out.c1
  have c2 := HL1.out.c2
  have hz := HL1.out.size
  have HL2 := hid (HL1.out.stays (Joins.below_alloc1 w1 (.cells #[.int .i64 W, .int .i64 H, .slice ao n cap] 24)))
  clear hw1 HL
  have key : ∀ b : Bool, b = x → Ending.returned (.tuple #[.bool b, .int .i64 0]) = Ending.returned (.tuple #[.bool x, .int .i64 0]) := fun b h => by rw [h]
  have HK := hid key
  clear key
  go_wp2_with (first
    | (go_at_call 31; refine (is_any W H hW2 hH2 _ u _).mono ?_; rw [HT.out]; rintro e w' ⟨rfl, rfl⟩)
    | (go_at_call 57; refine (face_any W H ao n cap Z HG.out u HU.out _ HL2.out.ints).mono ?_; rw [← HB.out]; rintro e w4 ⟨rfl, hb4⟩)
    | (go_at_call 47; refine (apart_any _ _ (by omega) (by omega) (by omega) (by omega) _).mono ?_; rw [← HD.out]; rintro e w' ⟨rfl, rfl⟩))
  · have g : c = 1 := by simpa using (show (c == 1) = true by assumption)
    go_ret2
    exact ⟨HK.out _ (by rw [HX.out, if_pos g]), (HL2.out.stays hb4).below⟩
  · have g : ¬ c = 1 := by simpa using (show (c == 1) = false by assumption)
    have g2 : c = 3 := by simpa using (show (c == 3) = true by assumption)
    go_ret2
    exact ⟨HK.out _ (by rw [HX.out, if_neg g, if_pos g2]), (HL2.out.stays hb4).below⟩
  · have g : ¬ c = 1 := by simpa using (show (c == 1) = false by assumption)
    have g2 : ¬ c = 3 := by simpa using (show (c == 3) = false by assumption)
    go_ret2
    exact ⟨HK.out _ (by rw [HX.out, if_neg g, if_neg g2]), (HL2.out.stays hb4).below⟩

/-- What both answer of snow. -/
theorem snow_cases (W H : Int) (ao : Option Addr) (n cap : Nat) (Z : Nat → Int) (hn : n ≤ 9223372036854775807) (t c m : Int) : ∃ (x : Bool) (e : Int),
    (∀ w, Ints w ao n Z → Calls Try.prog 39 #[lv W H (.slice ao n cap), .int .i64 t, .int .i64 c, .int .i64 m] w fun r w' => r = .returned (.tuple #[.bool x, .int .i64 e]) ∧ Below w.heap.size w w') ∧
    (∀ w, Ints w ao n Z → Calls Try.prog 40 #[lv W H (.slice ao n cap), .int .i64 t, .int .i64 c, .int .i64 m] w fun r w' => r = .returned (.tuple #[.bool x, .int .i64 e]) ∧ Below w.heap.size w w') := by
  rcases tile_cases W H n Z t with ⟨e, he⟩ | ⟨W', H', u, rfl, rfl, rfl, hg, hu⟩
  · exact ⟨false, e, fun w hI => snow_no W H ao n cap Z hn t c m w hI e he, fun w hI => refsnow_no W H ao n cap Z hn t c m w hI e he⟩
  · by_cases hc : Clime c m
    · exact ⟨_, 0, fun w hI => snow_ok W' H' ao n cap Z hg u hu c m hc w hI, fun w hI => refsnow_ok W' H' ao n cap Z hg u hu c m hc w hI⟩
    · exact ⟨false, 1, fun w hI => snow_arg W' H' ao n cap Z hg u hu c m hc w hI, fun w hI => refsnow_arg W' H' ao n cap Z hg u hu c m hc w hI⟩

set_option maxHeartbeats 1600000 in
theorem walk_snows (W H : Int) (ao : Option Addr) (n cap : Nat) (Z : Nat → Int) (hn : n ≤ 9223372036854775807) (t c m : Int) (w : World) (hI : Ints w ao n Z) :
    Calls Try.prog 14 #[lv W H (.slice ao n cap), .int .i64 t, .int .i64 c, .int .i64 m] w fun r w' => r = .returned (.bool true) ∧ Below w.heap.size w w' := by
  obtain ⟨x, e, hA, hB⟩ := snow_cases W H ao n cap Z hn t c m
  have HS := hid (And.intro hA hB)
  have HL := hid (lb_start (W := W) (H := H) (cap := cap) hI)
  clear hI hA hB
  by_cases h1 : 4000 < n
  · go_enter Try.func14, Try.ntmps14
    go_wp2_with fail
    refine (large0_yes W H ao n cap hn h1 _).mono ?_
    rintro r w1 ⟨rfl, hb1⟩
    have HL1 := hid (HL.out.stays hb1)
    clear hb1
    go_wp2_with fail
    refine (known_any _).mono ?_
    rintro r w2 ⟨rfl, hb2⟩
    go_wp2
    go_ret
    exact ⟨rfl, (HL1.out.stays hb2).below⟩
  · go_enter Try.func14, Try.ntmps14
    go_wp2_with fail
    refine (large0_no W H ao n cap (by omega) _).mono ?_
    rintro r w1 ⟨rfl, hb1⟩
    have HL1 := hid (HL.out.stays hb1)
    have c0 := HL1.out.c0
    have c1 := HL1.out.c1
    have c2 := HL1.out.c2
    clear hb1 HL
    go_wp2_with fail
    refine (HS.out.1 _ HL1.out.ints).mono ?_
    rintro r w2 ⟨rfl, hb2⟩
    have HL2 := hid (HL1.out.stays hb2)
    clear hb2 c0 c1 c2 HL1
    have c0 := HL2.out.c0
    have c1 := HL2.out.c1
    have c2 := HL2.out.c2
    go_wp2_with fail
    refine (HS.out.2 _ HL2.out.ints).mono ?_
    rintro r w3 ⟨rfl, hb3⟩
    have HL3 := hid (HL2.out.stays hb3)
    clear hb3 c0 c1 c2 HL2
    go_wp2_with fail
    refine (known_any _).mono ?_
    rintro r w6 ⟨rfl, hb6⟩
    go_wp2
    go_ret
    exact ⟨rfl, (HL3.out.stays hb6).below⟩
end Go.Proofs.Ytngamphkehppfaa
