/-
  The walk of the reference's River, and the refusals of both.
-/
import Derived.Test.YtngamphkehppfaaWalkRiver
namespace Go.Proofs.Ytngamphkehppfaa
open Go.RowKit

set_option maxHeartbeats 1600000 in
theorem river_no (W H : Int) (ao : Option Addr) (n cap : Nat) (Z : Nat → Int) (hn : n ≤ 9223372036854775807) (t : Int) (w : World) (hI : Ints w ao n Z) (e : Int) (hE : TErr W H n Z t e) :
    Calls Try.prog 28 #[lv W H (.slice ao n cap), .int .i64 t] w fun r w' => r = .returned (.tuple #[.slice none 0 0, .int .i64 e]) ∧ Below w.heap.size w w' := by
  have HL := hid (lb_start (W := W) (H := H) (cap := cap) hI)
  have HE := hid hE
  have g : (e != 0) = true := by simpa using hE.ne
  clear hI hE
  go_enter Try.func28, Try.ntmps28
  go_wp2_with fail
  refine (vt_no W H ao n cap Z hn t _ HL.out.ints e HE.out).mono ?_
  rintro r w1 ⟨rfl, hb1⟩
  go_wp2_with fail
  go_ret2
  exact ⟨rfl, (HL.out.stays hb1).below⟩
set_option maxHeartbeats 1600000 in
theorem refriver_no (W H : Int) (ao : Option Addr) (n cap : Nat) (Z : Nat → Int) (hn : n ≤ 9223372036854775807) (t : Int) (w : World) (hI : Ints w ao n Z) (e : Int) (hE : TErr W H n Z t e) :
    Calls Try.prog 29 #[lv W H (.slice ao n cap), .int .i64 t] w fun r w' => r = .returned (.tuple #[.slice none 0 0, .int .i64 e]) ∧ Below w.heap.size w w' := by
  have HL := hid (lb_start (W := W) (H := H) (cap := cap) hI)
  clear hI
  rcases hE with ⟨h0, hE⟩ | ⟨rfl, W', H', rfl, rfl, hg, ht⟩
  · have HE := hid hE
    have g : (e != 0) = true := by simpa using h0
    clear hE
    go_enter Try.func29, Try.ntmps29
    go_wp2_with fail
    refine (refvalidate_any W H ao n cap Z hn _ HL.out.ints e HE.out).mono ?_
    rintro r w1 ⟨rfl, hb1⟩
    go_wp2_with fail
    go_ret2
    exact ⟨rfl, (HL.out.stays hb1).below⟩
  · have HE := hid hg.err
    have HT := hid ht
    obtain ⟨hW1, hW2, hH1, hH2⟩ := hg.side
    clear hg ht
    go_enter Try.func29, Try.ntmps29
    go_wp2_with fail
    refine (refvalidate_any W' H' ao n cap Z hn _ HL.out.ints 0 HE.out).mono ?_
    rintro r w1 ⟨rfl, hb1⟩
    have HL1 := hid (HL.out.stays hb1)
    have c0 := HL1.out.c0
    have c1 := HL1.out.c1
    have c2 := HL1.out.c2
    have hz := HL1.out.size
    clear hb1
    go_wp2_with (go_at_call 31; refine (is_any W' H' hW2 hH2 _ t _).mono ?_; rw [HT.out]; rintro e w' ⟨rfl, rfl⟩)
    go_ret2
    exact ⟨rfl, add HL1.out.below _⟩

set_option maxHeartbeats 3200000 in
theorem refriver_ok (W H : Nat) (ao : Option Addr) (n cap : Nat) (Z : Nat → Int) (hg : Good W H n Z) (u : Nat) (hu : u < W * H) (m : Nat) (hm : m ≤ 60) (hr : Riv W H Z u m) (w : World) (hI : Ints w ao n Z) :
    Calls Try.prog 29 #[lv W H (.slice ao n cap), .int .i64 u] w fun r w' => ∃ v, r = .returned (.tuple #[v, .int .i64 0]) ∧ w'.ownsRow w.heap.size 3 1 v (m + 1) (ints (m + 1) (rvI W H Z u)) ∧ Below w.heap.size w w' := by
  obtain ⟨i0, hi, hz0, hz1, hz2⟩ := info_parts info3
  have HIN := hid (And.intro hi (And.intro hz0 (And.intro hz1 hz2)))
  clear hi hz0 hz1 hz2
  have HL := hid (lb_start (W := W) (H := H) (cap := cap) hI)
  have HI := hid hI
  have HG := hid hg
  have HGE := hid hg.err
  have HU := hid hu
  have HR := hid hr
  have HTY := hid (tile_yes hu)
  obtain ⟨hW1, hW2, hH1, hH2⟩ := hg.side
  have hlb := hg.shaped.bound
  have HLT := hid (fun k => rvr_lt (Z := Z) hu k)
  clear hI hg hu hr
  go_enter Try.func29, Try.ntmps29
  go_wp2_with fail
  refine (refvalidate_any W H ao n cap Z (by omega) _ HL.out.ints 0 HGE.out).mono ?_
  rintro r w1 ⟨rfl, hb1⟩
  have HL1 := hid (HL.out.stays hb1)
  have c0 := HL1.out.c0
  have c1 := HL1.out.c1
  have c2 := HL1.out.c2
  have hz := HL1.out.size
  clear hb1 HL
  go_wp2_with fail
  refine (is_any W H hW2 hH2 _ u _).mono ?_
  rw [HTY.out]
  rintro e w2 ⟨rfl, hw2⟩
  have HL2 := hid (HL1.out.stays (Joins.below_alloc1 w1 (.cells #[.int .i64 W, .int .i64 H, .slice ao n cap] 24)))
  rw [hw2] at HL2
  clear hw2 c0 c1 c2 hz
  have HV := hid (RV.start (X := rvI W H Z u) HL2.out)
  obtain ⟨x, hx⟩ : ∃ x, rvI W H Z u 0 = x := ⟨_, rfl⟩
  rw [hx] at HV
  have hxu : x = u := hx.symm
  subst hxu
  clear hx
  go_wp2_with fail
  go_loopw [8, 7] (fun tv sv wr => ∃ k : Nat, k ≤ m ∧ tv = .int .i64 (rvr W H Z u k : Nat) ∧ Hid (RV W H ao n cap Z sv (k + 1) (rvI W H Z u) w wr)) (fun tv _ _ => (sumT W Z (intOf tv).toNat).toNat)
  case atStart => exact ⟨0, Nat.zero_le _, rfl, HV⟩
  case round =>
    obtain ⟨k, hk, rfl, hS⟩ := hrel
    clear HV HL1 HL2
    obtain ⟨t, ht⟩ : ∃ t, rvr W H Z u k = t := ⟨_, rfl⟩
    have htl : t < W * H := by rw [← ht]; exact HLT.out k
    rw [ht]
    have HT := hid ht
    have HTL := hid htl
    have c0 := hS.out.lb.c0
    have c1 := hS.out.lb.c1
    have c2 := hS.out.lb.c2
    have ht2 : t ≤ 1024 := by have := mul_small hW2 hH2; omega
    have HE : ∀ (v : Value) (w' : World), k = m → RV W H ao n cap Z v (k + 1) (rvI W H Z u) w w' → ∃ v', Ending.returned (.tuple #[v, .int .i64 0]) = .returned (.tuple #[v', .int .i64 0]) ∧ w'.ownsRow w.heap.size 3 1 v' (m + 1) (ints (m + 1) (rvI W H Z u)) ∧ Below w.heap.size w w' :=
      fun v w' e h => by subst e; exact ⟨v, rfl, h.row.mono' (Nat.le_succ _), h.lb.below⟩
    have HEE := hid HE
    have hends : (k < m ∧ ¬ Ends W H Z t) ∨ (k = m ∧ Ends W H Z t) := by
      by_cases h : k < m
      · exact .inl ⟨h, by rw [← ht]; exact HR.out.goes k h⟩
      · have e : k = m := by omega
        exact .inr ⟨e, by rw [← ht, e]; exact HR.out.ends⟩
    have HENDS := hid hends
    clear ht HE hends
    by_cases hw : top W Z t ≤ 2
    · have hkm : k = m := by
        rcases HENDS.out with ⟨_, h⟩ | ⟨h, _⟩
        · exact absurd (.inl hw) h
        · exact h
      have HKM := hid hkm
      have HW := hid (decide_eq_true hw)
      clear hw hkm htl
      go_wp2_with fail
      refine (sea_any W H ao n cap Z HG.out t HTL.out _ hS.out.lb.ints).mono ?_
      rw [HW.out]
      rintro r w3 ⟨rfl, hb3⟩
      have HS3 := hid (hS.out.stays hb3)
      clear hb3 c0 c1 c2
      go_wp2_with fail
      go_ret2
      exact HEE.out _ _ HKM.out HS3.out
    · have HW := hid (decide_eq_false hw)
      have HNW := hid hw
      clear hw htl
      go_wp2_with fail
      refine (sea_any W H ao n cap Z HG.out t HTL.out _ hS.out.lb.ints).mono ?_
      rw [HW.out]
      rintro r w3 ⟨rfl, hb3⟩
      have HS3 := hid (hS.out.stays hb3)
      clear hb3 c0 c1 c2 hS
      have c0 := HS3.out.lb.c0
      have c1 := HS3.out.lb.c1
      have c2 := HS3.out.lb.c2
      go_wp2_with fail
      refine (reftotal_any W H ao n cap Z HG.out t HTL.out _ HS3.out.lb.ints).mono ?_
      rintro r w4 ⟨rfl, hb4⟩
      have HS4 := hid (HS3.out.stays hb4)
      clear hb4 c0 c1 c2 HS3
      go_wp2_with fail
      go_loopw [9, 10, 32] (fun nv lv' iv wr => ∃ j : Nat, j ≤ 4 ∧ iv = .int .i64 j ∧ nv = .int .i64 (refN W H Z t j) ∧ lv' = .int .i64 (lowS W H Z t j).2 ∧ Hid (RV W H ao n cap Z u7 (k + 1) (rvI W H Z u) w wr)) (fun _ _ iv _ => 4 - (intOf iv).toNat)
      case atStart => exact ⟨0, by omega, rfl, by rw [refN_zero], rfl, HS4⟩
      case round =>
        obtain ⟨j, hj, rfl, rfl, rfl, hQ⟩ := hrel
        clear HS4
        obtain ⟨nx, hnx⟩ : ∃ nx, refN W H Z t j = nx := ⟨_, rfl⟩
        obtain ⟨l, hl⟩ : ∃ l, (lowS W H Z t j).2 = l := ⟨_, rfl⟩
        rw [hnx, hl]
        have HNL := hid (And.intro hnx hl)
        clear hnx hl
        by_cases hlt : j < 4
        · have c0 := hQ.out.lb.c0
          have c1 := hQ.out.lb.c1
          have c2 := hQ.out.lb.c2
          have hj3 : (j : Int) < 4 := by omega
          go_wp2_with fail
          refine (beyond_any W H (by omega) hW2 hH2 t HTL.out j hlt _).mono ?_
          rintro r w5 ⟨rfl, hb5⟩
          have HQ5 := hid (hQ.out.stays hb5)
          clear hb5 c0 c1 c2
          rcases bsd_tile HTL.out j with e | ⟨v, e, hv⟩
          · rw [e]
            have HE := hid (lowS_none (Z := Z) e)
            clear e
            go_wp2_with fail
            go_roundw
            case rel => exact ⟨j + 1, by omega, by go_num, by rw [← HNL.out.1]; unfold refN; rw [HE.out], by rw [HE.out, HNL.out.2], HQ5⟩
            case measure => simp [intOf]; omega
          · rw [e]
            have HE := hid e
            have HV := hid hv
            have hv2 : v ≤ 1024 := by have := mul_small hW2 hH2; omega
            have hv0 : (0 : Int) ≤ (v : Int) := by omega
            clear e hv
            have c0 := HQ5.out.lb.c0
            have c1 := HQ5.out.lb.c1
            have c2 := HQ5.out.lb.c2
            go_wp2_with fail
            refine (reftotal_any W H ao n cap Z HG.out v HV.out _ HQ5.out.lb.ints).mono ?_
            rintro r w6 ⟨rfl, hb6⟩
            have HQ6 := hid (HQ5.out.stays hb6)
            clear hb6 c0 c1 c2 HQ5
            have c0 := HQ6.out.lb.c0
            have c1 := HQ6.out.lb.c1
            have c2 := HQ6.out.lb.c2
            obtain ⟨q, hq⟩ : ∃ q, sumT W Z v = q := ⟨_, rfl⟩
            by_cases hlow : q < l
            · have H1 := hid (lowS_yes HE.out (by rw [HNL.out.2, hq]; exact hlow))
              have H2 := hid (refN_yes HTL.out HE.out (by rw [HNL.out.2, hq]; exact hlow))
              rw [hq]
              have HQ := hid hq
              clear hq
              go_wp2_with fail
              refine (reftotal_any W H ao n cap Z HG.out v HV.out _ HQ6.out.lb.ints).mono ?_
              rw [HQ.out]
              rintro r w7 ⟨rfl, hb7⟩
              have HQ7 := hid (HQ6.out.stays hb7)
              clear hb7 c0 c1 c2 HQ6
              go_wp2_with fail
              go_roundw
              case rel => exact ⟨j + 1, by omega, by go_num, by rw [H2.out], by rw [H1.out, HQ.out], HQ7⟩
              case measure => simp [intOf]; omega
            · have H1 := hid (lowS_no HE.out (by rw [HNL.out.2, hq]; exact hlow))
              rw [hq]
              clear hq
              go_wp2_with fail
              go_roundw
              case rel => exact ⟨j + 1, by omega, by go_num, by rw [← HNL.out.1]; unfold refN; rw [H1.out], by rw [H1.out, HNL.out.2], HQ6⟩
              case measure => simp [intOf]; omega
        · obtain rfl : j = 4 := by omega
          rcases refN_end W H Z t with ⟨hst, hrn⟩ | ⟨hst, hrn⟩
          · have hnx : nx = -1 := by rw [← HNL.out.1]; exact hrn
            have hkm : k = m := by
              rcases HENDS.out with ⟨_, h⟩ | ⟨h, _⟩
              · exact absurd (.inr hst) h
              · exact h
            have HKM := hid hkm
            clear hkm hst hrn
            subst hnx
            go_wp2_with fail
            go_ret2
            exact HEE.out _ _ HKM.out hQ.out
          · obtain ⟨q, hq⟩ : ∃ q, stp W H Z t = q := ⟨_, rfl⟩
            have hnx : nx = (q : Int) := by rw [← HNL.out.1, ← hq]; exact hrn
            have hkm : k < m := by
              rcases HENDS.out with ⟨h, _⟩ | ⟨_, h⟩
              · exact h
              · rcases h with h | h
                · exact absurd h (by have := HNW.out; omega)
                · exact absurd h hst
            have HLO := hid (stp_low HTL.out hst)
            have HSUM := hid (sumT_in HG.out (stp_lt (Z := Z) HTL.out))
            have HX : Hid (rvI W H Z u (k + 1) = q) := hid (by show ((stp W H Z (rvr W H Z u k) : Nat) : Int) = q; rw [HT.out, hq])
            have HQ := hid hq
            have hsz := hQ.out.lb.size
            have hq0 : (0 : Int) ≤ (q : Int) := by omega
            clear hq hst hrn
            subst hnx
            go_wp2_with (at_builtin; refine wpList_append_own _ rfl _ _ 22 rfl (w.heap.size + 1) 3 i0 (.int .i64 0) 1 8 Try.underlying22 HIN.out.1 HIN.out.2.1 HIN.out.2.2.1 HIN.out.2.2.2 rfl (by decide) _ _ _ rfl (hQ.out.row.alloc _) ⟨wr.heap.size, 0, none⟩ 1 1 [.int .i64 q] rfl rfl ?c1 ?c2 ?c3 ?c4 ?c5 ?_)
            case c1 =>
              intro j u hj
              match j, hj with
              | 0, hj => simp at hj; subst hj; simp [Addr.add]
            case c2 => intro u hu; simp at hu; rcases hu with rfl; rfl
            case c3 => unfold maxLen; omega
            case c4 => omega
            case c5 => simp; omega
            intro v' w9 hown hgrow _
            have H4 := hid (RV.app (v' := v') (w' := w9) HI.out hQ.out (by rw [HX.out]; exact hgrow) (by rw [HX.out]; exact hown))
            clear hown hgrow
            go_wp2_with fail
            go_roundw
            case rel => exact ⟨k + 1, by omega, by show _ = Value.int .i64 (rvI W H Z u (k + 1)); rw [HX.out], H4⟩
            case measure =>
              have := HLO.out
              have := HSUM.out
              rw [HQ.out] at *
              simp [intOf]; omega
end Go.Proofs.Ytngamphkehppfaa
