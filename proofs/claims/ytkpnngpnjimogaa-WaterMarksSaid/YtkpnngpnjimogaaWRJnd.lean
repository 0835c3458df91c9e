/-
  What refuses Joined, Next, Areas, Flood and Sail of the program at all; place and Joined of the reference.
-/
import Derived.Test.YtkpnngpnjimogaaWMeets
namespace Go.Proofs.Ytkpnngpnjimogaa
open Go.RowKit

set_option maxRecDepth 20000 in
set_option maxHeartbeats 3200000 in
theorem joined_no (W H : Int) (ao ko bo : Option Addr) (n cap m kcap q bcap : Nat) (Z K Y : Nat → Int) (hn : n ≤ 4000) (hq : q ≤ 4000) (t s : Int) (e : Int) (h : WErr W H n m q Z K Y e) (h0 : e ≠ 0) (w : World) (hI : Ints w ao n Z) (hK : Ints w ko m K) (hY : Ints w bo q Y) :
    Calls Try.prog 23 #[lv W H (.slice ao n cap), .agg #[.slice ko m kcap, .slice bo q bcap], .int .i64 t, .int .i64 s] w fun r w' => r = .returned (.tuple #[.bool false, .int .i64 e]) ∧ Below w.heap.size w w' := by
  have HL := hid (LW.start (W := W) (H := H) (cap := cap) (kcap := kcap) (bcap := bcap) hI hK hY)
  have HE := hid h
  have H0 := hid h0
  have g1 : (e == 0) = false := by rw [beq_eq_false_iff_ne]; exact h0
  have g2 : (e != 0) = true := by simp [h0]
  clear hI hK hY h h0
  go_enter Try.func23, Try.ntmps23
  go_wp2_with (go_at_call 40; (refine (survey_no W H ao ko bo n cap m kcap q bcap Z K Y hn hq e HE.out H0.out _ HL.out.land HL.out.kinds HL.out.buoys).mono ?_); rintro r w1 ⟨rfl, hb⟩; have HB1 := hid (HL.out.stays hb); have HB := hid (HB1.out.stays (Joins.below_alloc1 w1 (.cells #[.int .i64 0, .int .i64 0, .slice none 0 0, .slice none 0 0, .slice none 0 0, .map none] 52))); clear hb)
  go_ret2
  exact ⟨rfl, HB.out.below⟩
set_option maxRecDepth 20000 in
set_option maxHeartbeats 3200000 in
theorem next_no (W H : Int) (ao ko bo : Option Addr) (n cap m kcap q bcap : Nat) (Z K Y : Nat → Int) (hn : n ≤ 4000) (hq : q ≤ 4000) (t s : Int) (e : Int) (h : WErr W H n m q Z K Y e) (h0 : e ≠ 0) (w : World) (hI : Ints w ao n Z) (hK : Ints w ko m K) (hY : Ints w bo q Y) :
    Calls Try.prog 26 #[lv W H (.slice ao n cap), .agg #[.slice ko m kcap, .slice bo q bcap], .int .i64 t, .int .i64 s] w fun r w' => r = .returned (.tuple #[.slice none 0 0, .int .i64 e]) ∧ Below w.heap.size w w' := by
  have HL := hid (LW.start (W := W) (H := H) (cap := cap) (kcap := kcap) (bcap := bcap) hI hK hY)
  have HE := hid h
  have H0 := hid h0
  have g1 : (e == 0) = false := by rw [beq_eq_false_iff_ne]; exact h0
  have g2 : (e != 0) = true := by simp [h0]
  clear hI hK hY h h0
  go_enter Try.func26, Try.ntmps26
  go_wp2_with (go_at_call 40; (refine (survey_no W H ao ko bo n cap m kcap q bcap Z K Y hn hq e HE.out H0.out _ HL.out.land HL.out.kinds HL.out.buoys).mono ?_); rintro r w1 ⟨rfl, hb⟩; have HB1 := hid (HL.out.stays hb); have HB := hid (HB1.out.stays (Joins.below_alloc1 w1 (.cells #[.int .i64 0, .int .i64 0, .slice none 0 0, .slice none 0 0, .slice none 0 0, .map none] 52))); clear hb)
  go_ret2
  exact ⟨rfl, HB.out.below⟩
set_option maxRecDepth 20000 in
set_option maxHeartbeats 3200000 in
theorem areas_no (W H : Int) (ao ko bo : Option Addr) (n cap m kcap q bcap : Nat) (Z K Y : Nat → Int) (hn : n ≤ 4000) (hq : q ≤ 4000) (e : Int) (h : WErr W H n m q Z K Y e) (h0 : e ≠ 0) (w : World) (hI : Ints w ao n Z) (hK : Ints w ko m K) (hY : Ints w bo q Y) :
    Calls Try.prog 29 #[lv W H (.slice ao n cap), .agg #[.slice ko m kcap, .slice bo q bcap]] w fun r w' => r = .returned (.tuple #[.slice none 0 0, .int .i64 e]) ∧ Below w.heap.size w w' := by
  have HL := hid (LW.start (W := W) (H := H) (cap := cap) (kcap := kcap) (bcap := bcap) hI hK hY)
  have HE := hid h
  have H0 := hid h0
  have g1 : (e == 0) = false := by rw [beq_eq_false_iff_ne]; exact h0
  have g2 : (e != 0) = true := by simp [h0]
  clear hI hK hY h h0
  go_enter Try.func29, Try.ntmps29
  go_wp2_with (go_at_call 40; (refine (survey_no W H ao ko bo n cap m kcap q bcap Z K Y hn hq e HE.out H0.out _ HL.out.land HL.out.kinds HL.out.buoys).mono ?_); rintro r w1 ⟨rfl, hb⟩; have HB1 := hid (HL.out.stays hb); have HB := hid (HB1.out.stays (Joins.below_alloc1 w1 (.cells #[.int .i64 0, .int .i64 0, .slice none 0 0, .slice none 0 0, .slice none 0 0, .map none] 52))); clear hb)
  go_ret2
  exact ⟨rfl, HB.out.below⟩
set_option maxRecDepth 20000 in
set_option maxHeartbeats 3200000 in
theorem flood_no (W H : Int) (ao ko bo : Option Addr) (n cap m kcap q bcap : Nat) (Z K Y : Nat → Int) (hn : n ≤ 4000) (hq : q ≤ 4000) (e : Int) (h : WErr W H n m q Z K Y e) (h0 : e ≠ 0) (w : World) (hI : Ints w ao n Z) (hK : Ints w ko m K) (hY : Ints w bo q Y) :
    Calls Try.prog 33 #[lv W H (.slice ao n cap), .agg #[.slice ko m kcap, .slice bo q bcap]] w fun r w' => r = .returned (.tuple #[.slice none 0 0, .int .i64 e]) ∧ Below w.heap.size w w' := by
  have HL := hid (LW.start (W := W) (H := H) (cap := cap) (kcap := kcap) (bcap := bcap) hI hK hY)
  have HE := hid h
  have H0 := hid h0
  have g1 : (e == 0) = false := by rw [beq_eq_false_iff_ne]; exact h0
  have g2 : (e != 0) = true := by simp [h0]
  clear hI hK hY h h0
  go_enter Try.func33, Try.ntmps33
  go_wp2_with (go_at_call 40; (refine (survey_no W H ao ko bo n cap m kcap q bcap Z K Y hn hq e HE.out H0.out _ HL.out.land HL.out.kinds HL.out.buoys).mono ?_); rintro r w1 ⟨rfl, hb⟩; have HB1 := hid (HL.out.stays hb); have HB := hid (HB1.out.stays (Joins.below_alloc1 w1 (.cells #[.int .i64 0, .int .i64 0, .slice none 0 0, .slice none 0 0, .slice none 0 0, .map none] 52))); clear hb)
  go_ret2
  exact ⟨rfl, HB.out.below⟩
set_option maxRecDepth 20000 in
set_option maxHeartbeats 3200000 in
theorem sail_no (W H : Int) (ao ko bo : Option Addr) (n cap m kcap q bcap : Nat) (Z K Y : Nat → Int) (hn : n ≤ 4000) (hq : q ≤ 4000) (t s : Int) (e : Int) (h : WErr W H n m q Z K Y e) (h0 : e ≠ 0) (w : World) (hI : Ints w ao n Z) (hK : Ints w ko m K) (hY : Ints w bo q Y) :
    Calls Try.prog 35 #[lv W H (.slice ao n cap), .agg #[.slice ko m kcap, .slice bo q bcap], .int .i64 t, .int .i64 s] w fun r w' => r = .returned (.tuple #[.slice none 0 0, .int .i64 e]) ∧ Below w.heap.size w w' := by
  have HL := hid (LW.start (W := W) (H := H) (cap := cap) (kcap := kcap) (bcap := bcap) hI hK hY)
  have HE := hid h
  have H0 := hid h0
  have g1 : (e == 0) = false := by rw [beq_eq_false_iff_ne]; exact h0
  have g2 : (e != 0) = true := by simp [h0]
  clear hI hK hY h h0
  go_enter Try.func35, Try.ntmps35
  go_wp2_with (go_at_call 40; (refine (survey_no W H ao ko bo n cap m kcap q bcap Z K Y hn hq e HE.out H0.out _ HL.out.land HL.out.kinds HL.out.buoys).mono ?_); rintro r w1 ⟨rfl, hb⟩; have HB1 := hid (HL.out.stays hb); have HB := hid (HB1.out.stays (Joins.below_alloc1 w1 (.cells #[.int .i64 0, .int .i64 0, .slice none 0 0, .slice none 0 0, .slice none 0 0, .map none] 52))); clear hb)
  go_ret2
  exact ⟨rfl, HB.out.below⟩
/-- What place answers. -/
def PErr (W H : Int) (n m q : Nat) (Z K Y : Nat → Int) (t e : Int) : Prop :=
  (e ≠ 0 ∧ WErr W H n m q Z K Y e) ∨ ∃ W' H' : Nat, W = W' ∧ H = H' ∧ Good W' H' n Z ∧ Fine W' H' m q Z K Y ∧ ((e = 2 ∧ tileB W' H' t = false) ∨ (e = 0 ∧ tileB W' H' t = true))
set_option maxRecDepth 20000 in
set_option maxHeartbeats 3200000 in
theorem place_to (W H : Int) (ao ko bo : Option Addr) (n cap m kcap q bcap : Nat) (Z K Y : Nat → Int) (hn : n ≤ 4000) (hq : q ≤ 4000) (t e : Int) (h : PErr W H n m q Z K Y t e) (w : World) (hI : Ints w ao n Z) (hK : Ints w ko m K) (hY : Ints w bo q Y) :
    Calls Try.prog 54 #[lv W H (.slice ao n cap), .agg #[.slice ko m kcap, .slice bo q bcap], .int .i64 t] w fun r w' => r = .returned (.int .i64 e) ∧ Below w.heap.size w w' := by
  have HL := hid (LW.start (W := W) (H := H) (cap := cap) (kcap := kcap) (bcap := bcap) hI hK hY)
  clear hI hK hY
  rcases h with ⟨h0, h⟩ | ⟨W', H', rfl, rfl, hg, hf, h⟩
  · have HE := hid h
    have g1 : (e == 0) = false := by rw [beq_eq_false_iff_ne]; exact h0
    have g2 : (e != 0) = true := by simp [h0]
    clear h h0
    go_enter Try.func54, Try.ntmps54
    go_wp2_with (go_at_call 17; (refine (wrefvalidate_to W H ao ko bo n cap m kcap q bcap Z K Y hn hq e HE.out _ HL.out.land HL.out.kinds HL.out.buoys).mono ?_); rintro r w1 ⟨rfl, hb⟩; have HB1 := hid (HL.out.stays hb); clear hb)
    go_ret
    exact ⟨rfl, HB1.out.below⟩
  · have HE := hid (hg.werr hf.err)
    have hsd := hg.side
    have HT := hid (fun s w => is_any W' H' hsd.2.1 hsd.2.2.2 s t w)
    clear hg hf hsd
    rcases h with ⟨rfl, h⟩ | ⟨rfl, h⟩
    all_goals
      rw [h] at HT
      clear h
      go_enter Try.func54, Try.ntmps54
      go_upto_region 1 with fail
      generalize World.alloc _ _ = wl at HL ⊢
      have c0 := HL.out.c0
      have c1 := HL.out.c1
      have c2 := HL.out.c2
      have c3 := HL.out.c3
      have c4 := HL.out.c4
      have hz := HL.out.size
      go_wp2_with (first
        | (go_at_call 17; (refine (wrefvalidate_to W' H' ao ko bo n cap m kcap q bcap Z K Y hn hq 0 HE.out _ HL.out.land HL.out.kinds HL.out.buoys).mono ?_); rintro r w1 ⟨rfl, hb⟩; have HLn := hid (HL.out.stays hb); clear hb c0 c1 c2 c3 c4 hz HL; have HL := HLn; clear HLn; have c0 := HL.out.c0; have c1 := HL.out.c1; have c2 := HL.out.c2; have c3 := HL.out.c3; have c4 := HL.out.c4; have hz := HL.out.size)
        | (go_at_call 37; refine (HT.out _ _).mono ?_; rintro r wn ⟨rfl, rfl⟩; have hb := Joins.below_alloc1 w1 (.cells #[.int .i64 W', .int .i64 H', .slice ao n cap] 24); have HLn := hid (HL.out.stays hb); clear hb c0 c1 c2 c3 c4 hz HL; have HL := HLn; clear HLn; have c0 := HL.out.c0; have c1 := HL.out.c1; have c2 := HL.out.c2; have c3 := HL.out.c3; have c4 := HL.out.c4; have hz := HL.out.size))
      go_ret
      exact ⟨rfl, HL.out.below⟩
/-- What Joined answers. -/
def JOut (W H : Int) (n m q : Nat) (Z K Y : Nat → Int) (t s : Int) (b : Bool) (e : Int) : Prop :=
  (e ≠ 0 ∧ WErr W H n m q Z K Y e ∧ b = false) ∨ ∃ W' H' : Nat, W = W' ∧ H = H' ∧ Good W' H' n Z ∧ Fine W' H' m q Z K Y ∧ JI W' H' Z K t s b e
theorem JOut.ex (W H : Int) (n m q : Nat) (Z K Y : Nat → Int) (t s : Int) : ∃ b e, JOut W H n m q Z K Y t s b e := by
  obtain ⟨e, he⟩ := WErr.ex W H n m q Z K Y
  by_cases h0 : e = 0
  · subst h0
    obtain ⟨W', H', rfl, rfl, hg, hf⟩ := he.fine
    obtain ⟨b, e, h⟩ := JI.ex W' H' Z K t s
    exact ⟨b, e, .inr ⟨W', H', rfl, rfl, hg, hf, h⟩⟩
  · exact ⟨false, e, .inl ⟨h0, he, rfl⟩⟩
theorem wjoined_to (W H : Int) (ao ko bo : Option Addr) (n cap m kcap q bcap : Nat) (Z K Y : Nat → Int) (hn : n ≤ 4000) (hq : q ≤ 4000) (t s : Int) (b : Bool) (e : Int) (h : JOut W H n m q Z K Y t s b e) (w : World) (hI : Ints w ao n Z) (hK : Ints w ko m K) (hY : Ints w bo q Y) :
    Calls Try.prog 23 #[lv W H (.slice ao n cap), .agg #[.slice ko m kcap, .slice bo q bcap], .int .i64 t, .int .i64 s] w fun r w' => r = .returned (.tuple #[.bool b, .int .i64 e]) ∧ Below w.heap.size w w' := by
  rcases h with ⟨h0, h, rfl⟩ | ⟨W', H', rfl, rfl, hg, hf, h⟩
  · exact joined_no W H ao ko bo n cap m kcap q bcap Z K Y hn hq t s e h h0 w hI hK hY
  · obtain ⟨d, ⟨hW, hH, rfl, rfl, rfl⟩, ⟨rfl, rfl, rfl, rfl, rfl, rfl⟩, ⟨rfl, rfl, rfl⟩, hg', hf'⟩ := fine_wat cap kcap bcap (hg.werr hf.err) hI hK hY
    obtain rfl : W' = d.W := by omega
    obtain rfl : H' = d.H := by omega
    exact joined_yes d hg' hf' hq t s b e h w hI hK hY
set_option maxRecDepth 20000 in
set_option maxHeartbeats 3200000 in
theorem refjoined_to (W H : Int) (ao ko bo : Option Addr) (n cap m kcap q bcap : Nat) (Z K Y : Nat → Int) (hn : n ≤ 4000) (hq : q ≤ 4000) (t s : Int) (b : Bool) (e : Int) (h : JOut W H n m q Z K Y t s b e) (w : World) (hI : Ints w ao n Z) (hK : Ints w ko m K) (hY : Ints w bo q Y) :
    Calls Try.prog 24 #[lv W H (.slice ao n cap), .agg #[.slice ko m kcap, .slice bo q bcap], .int .i64 t, .int .i64 s] w fun r w' => r = .returned (.tuple #[.bool b, .int .i64 e]) ∧ Below w.heap.size w w' := by
  have HL := hid (LW.start (W := W) (H := H) (cap := cap) (kcap := kcap) (bcap := bcap) hI hK hY)
  clear hI hK hY
  rcases h with ⟨h0, h, rfl⟩ | ⟨W', H', rfl, rfl, hg, hf, h⟩
  · have HE : Hid (PErr W H n m q Z K Y t e) := hid (.inl ⟨h0, h⟩)
    have g1 : (e == 0) = false := by rw [beq_eq_false_iff_ne]; exact h0
    have g2 : (e != 0) = true := by simp [h0]
    clear h h0
    go_enter Try.func24, Try.ntmps24
    go_wp2_with (go_at_call 54; (refine (place_to W H ao ko bo n cap m kcap q bcap Z K Y hn hq t e HE.out _ HL.out.land HL.out.kinds HL.out.buoys).mono ?_); rintro r w1 ⟨rfl, hb⟩; have HB1 := hid (HL.out.stays hb); clear hb)
    go_ret2
    exact ⟨rfl, HB1.out.below⟩
  · rcases h with ⟨rfl, rfl, h⟩ | ⟨rfl, rfl, h, hs⟩ | ⟨rfl, hs, u, rfl, hu, hbb⟩
    · have HE : Hid (PErr W' H' n m q Z K Y t 2) := hid (.inr ⟨W', H', rfl, rfl, hg, hf, .inl ⟨rfl, h⟩⟩)
      clear h hg hf
      go_enter Try.func24, Try.ntmps24
      go_wp2_with (go_at_call 54; (refine (place_to W' H' ao ko bo n cap m kcap q bcap Z K Y hn hq t 2 HE.out _ HL.out.land HL.out.kinds HL.out.buoys).mono ?_); rintro r w1 ⟨rfl, hb⟩; have HB1 := hid (HL.out.stays hb); clear hb)
      go_ret2
      exact ⟨rfl, HB1.out.below⟩
    · have HE : Hid (PErr W' H' n m q Z K Y t 0) := hid (.inr ⟨W', H', rfl, rfl, hg, hf, .inr ⟨rfl, h⟩⟩)
      have HS := hid hs
      clear h hg hf hs
      by_cases h0 : s < 0
      · go_enter Try.func24, Try.ntmps24
        go_wp2_with (go_at_call 54; (refine (place_to W' H' ao ko bo n cap m kcap q bcap Z K Y hn hq t 0 HE.out _ HL.out.land HL.out.kinds HL.out.buoys).mono ?_); rintro r w1 ⟨rfl, hb⟩; have HB1 := hid (HL.out.stays hb); clear hb)
        go_ret2
        exact ⟨rfl, HB1.out.below⟩
      · have h4 : 3 < s := by have := HS.out; omega
        go_enter Try.func24, Try.ntmps24
        go_wp2_with (go_at_call 54; (refine (place_to W' H' ao ko bo n cap m kcap q bcap Z K Y hn hq t 0 HE.out _ HL.out.land HL.out.kinds HL.out.buoys).mono ?_); rintro r w1 ⟨rfl, hb⟩; have HB1 := hid (HL.out.stays hb); clear hb)
        go_ret2
        exact ⟨rfl, HB1.out.below⟩
    · have HE : Hid (PErr W' H' n m q Z K Y u 0) := hid (.inr ⟨W', H', rfl, rfl, hg, hf, .inr ⟨rfl, tile_yes hu⟩⟩)
      obtain ⟨x, hx⟩ : ∃ x, x = if joi W' H' Z K u s = true then bey W' H' u s else -1 := ⟨_, rfl⟩
      have HM := hid (fun w hI hK hY => meets_any W' H' ao ko bo n cap m kcap q bcap Z K Y hg hf.len hf.fits u hu s hs.1 hs.2 x hx w hI hK hY)
      have hxb : (0 ≤ x) ↔ b = true := by
        rw [hx, hbb]
        by_cases hj : joi W' H' Z K u s = true
        · rw [if_pos hj]; exact ⟨fun _ => hj, fun _ => joi_bey hj⟩
        · rw [if_neg hj]; exact ⟨fun h => by omega, fun h => absurd h hj⟩
      have HXB := hid hxb
      obtain ⟨s0, s3⟩ := hs
      clear hg hf hu hx hbb hxb
      go_enter Try.func24, Try.ntmps24
      go_upto_region 1 with fail
      generalize World.alloc _ _ = wl at HL ⊢
      have c0 := HL.out.c0
      have c1 := HL.out.c1
      have c2 := HL.out.c2
      have c3 := HL.out.c3
      have c4 := HL.out.c4
      have hz := HL.out.size
      go_wp2_with (first
        | (go_at_call 54; (refine (place_to W' H' ao ko bo n cap m kcap q bcap Z K Y hn hq u 0 HE.out _ HL.out.land HL.out.kinds HL.out.buoys).mono ?_); rintro r w1 ⟨rfl, hb⟩; have HLn := hid (HL.out.stays hb); clear hb c0 c1 c2 c3 c4 hz HL; have HL := HLn; clear HLn; have c0 := HL.out.c0; have c1 := HL.out.c1; have c2 := HL.out.c2; have c3 := HL.out.c3; have c4 := HL.out.c4; have hz := HL.out.size)
        | (go_at_call 55; (refine (HM.out _ HL.out.land HL.out.kinds HL.out.buoys).mono ?_); rintro r w1 ⟨rfl, hb⟩; have HLn := hid (HL.out.stays hb); clear hb c0 c1 c2 c3 c4 hz HL; have HL := HLn; clear HLn; have c0 := HL.out.c0; have c1 := HL.out.c1; have c2 := HL.out.c2; have c3 := HL.out.c3; have c4 := HL.out.c4; have hz := HL.out.size))
      go_ret2
      refine ⟨?_, HL.out.below⟩
      rw [show b = decide (0 ≤ x) by rw [Bool.eq_iff_iff, ← HXB.out]; simp]
      rfl
end Go.Proofs.Ytkpnngpnjimogaa
