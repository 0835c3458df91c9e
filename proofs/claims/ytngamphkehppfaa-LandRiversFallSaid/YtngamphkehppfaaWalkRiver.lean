/-
  The walk of River.
-/
import Derived.Test.YtngamphkehppfaaWalkLow
namespace Go.Proofs.Ytngamphkehppfaa
open Go.RowKit

/-- The first k tiles of a river, as a list of numbers. -/
def rvI (W H : Nat) (Z : Nat → Int) (u : Nat) (i : Nat) : Int := (rvr W H Z u i : Nat)
/-- The memory of River: the land's box, and the list, which lies behind it. -/
structure RV (W H : Nat) (ao : Option Addr) (n cap : Nat) (Z : Nat → Int) (v : Value) (k : Nat) (X : Nat → Int) (w wr : World) : Prop where
  lb : LB W H ao n cap Z w wr
  row : wr.ownsRow (w.heap.size + 1) 3 1 v k (ints k X)
theorem RV.stays {W H : Nat} {ao : Option Addr} {n cap : Nat} {Z : Nat → Int} {v : Value} {k : Nat} {X : Nat → Int} {w wr w' : World} (h : RV W H ao n cap Z v k X w wr) (hb : Below wr.heap.size wr w') : RV W H ao n cap Z v k X w w' :=
  ⟨h.lb.stays hb, row_stays h.row hb⟩
theorem RV.start {W H : Nat} {ao : Option Addr} {n cap : Nat} {Z : Nat → Int} {X : Nat → Int} {w wr : World} (h : LB W H ao n cap Z w wr) :
    RV W H ao n cap Z (.slice (some ⟨wr.heap.size, 0, none⟩) 1 1) 1 X w (wr.alloc (.cells #[.int .i64 (X 0)] 3)) :=
  ⟨h.stays (Joins.below_alloc1 _ _), World.ownsRow_lit wr #[.int .i64 (X 0)] 1 (by have := h.size; omega) (by unfold maxLen; omega) rfl⟩
/-- Behind an append. -/
theorem RV.app {W H : Nat} {ao : Option Addr} {n cap : Nat} {Z : Nat → Int} {v v' : Value} {k : Nat} {X : Nat → Int} {w wr w' : World} (hI : Ints w ao n Z) (h : RV W H ao n cap Z v k X w wr)
    (hg : (wr.alloc (.cells #[.int .i64 (X k)] 3)).grownBy w' v.ownBlock) (hn : w'.ownsRow (w.heap.size + 1) 3 1 v' (k + 1) (ints k X ++ [.int .i64 (X k)])) : RV W H ao n cap Z v' (k + 1) X w w' := by
  have hz := h.lb.size
  have o1 := row_own h.row
  have hne : ∀ b, b < w.heap.size + 1 → some b ≠ v.ownBlock := fun b hb e => by have := o1 b e.symm; omega
  have k1 : ∀ j (x : Value), wr.cell? ⟨w.heap.size, j, none⟩ = some x → w'.cell? ⟨w.heap.size, j, none⟩ = some x := fun j x hc =>
    hg.cell (((Joins.below_alloc1 wr _).cell (p := ⟨w.heap.size, j, none⟩) hz).trans hc) (hne _ (by show w.heap.size < _; omega))
  have hb : Below w.heap.size w w' := (add h.lb.below (.cells #[.int .i64 (X k)] 3)).grown hg (by simp; omega) (fun j hj => by have := o1 j hj; omega)
  refine ⟨⟨hb, ?_, k1 0 _ h.lb.c0, k1 1 _ h.lb.c1, k1 2 _ h.lb.c2, hI.stays hb⟩, ?_⟩
  · have := hg.size; simp at this; omega
  · rw [ints_succ]; exact hn

set_option maxHeartbeats 3200000 in
theorem river_ok (W H : Nat) (ao : Option Addr) (n cap : Nat) (Z : Nat → Int) (hg : Good W H n Z) (u : Nat) (hu : u < W * H) (m : Nat) (hm : m ≤ 60) (hr : Riv W H Z u m) (w : World) (hI : Ints w ao n Z) :
    Calls Try.prog 28 #[lv W H (.slice ao n cap), .int .i64 u] w fun r w' => ∃ v, r = .returned (.tuple #[v, .int .i64 0]) ∧ w'.ownsRow w.heap.size 3 1 v (m + 1) (ints (m + 1) (rvI W H Z u)) ∧ Below w.heap.size w w' := by
  obtain ⟨i0, hi, hz0, hz1, hz2⟩ := info_parts info3
  have HIN := hid (And.intro hi (And.intro hz0 (And.intro hz1 hz2)))
  clear hi hz0 hz1 hz2
  have HL := hid (lb_start (W := W) (H := H) (cap := cap) hI)
  have HI := hid hI
  have HG := hid hg
  have HU := hid hu
  have HR := hid hr
  obtain ⟨hW1, hW2, hH1, hH2⟩ := hg.side
  have HLT := hid (fun k => rvr_lt (Z := Z) hu k)
  clear hI hg hu hr
  go_enter Try.func28, Try.ntmps28
  go_wp2_with fail
  refine (vt_ok W H ao n cap Z HG.out u HU.out _ HL.out.ints).mono ?_
  rintro r w1 ⟨rfl, hb1⟩
  have HL1 := hid (HL.out.stays hb1)
  have HV := hid (RV.start (X := rvI W H Z u) HL1.out)
  clear hb1 HL
  obtain ⟨x, hx⟩ : ∃ x, rvI W H Z u 0 = x := ⟨_, rfl⟩
  rw [hx] at HV
  have hxu : x = u := hx.symm
  subst hxu
  clear hx
  go_wp2_with fail
  go_loopw [1, 7] (fun tv sv wr => ∃ k : Nat, k ≤ m ∧ tv = .int .i64 (rvr W H Z u k : Nat) ∧ Hid (RV W H ao n cap Z sv (k + 1) (rvI W H Z u) w wr)) (fun tv _ _ => (sumT W Z (intOf tv).toNat).toNat)
  case atStart => exact ⟨0, Nat.zero_le _, rfl, HV⟩
  case round =>
    obtain ⟨k, hk, rfl, hS⟩ := hrel
    clear HV HL1
    obtain ⟨t, ht⟩ : ∃ t, rvr W H Z u k = t := ⟨_, rfl⟩
    have htl : t < W * H := by rw [← ht]; exact HLT.out k
    rw [ht]
    have HT := hid ht
    have HTL := hid htl
    have c0 := hS.out.lb.c0
    have c1 := hS.out.lb.c1
    have c2 := hS.out.lb.c2
    have ht2 : t ≤ 1024 := by have := mul_small hW2 hH2; omega
    by_cases hlt : k < m
    · have hne : ¬ Ends W H Z t := by rw [← ht]; exact HR.out.goes k hlt
      have hw : ¬ top W Z t ≤ 2 := fun h => hne (.inl h)
      have hst : stp W H Z t ≠ t := fun h => hne (.inr h)
      have HLO := hid (stp_low htl hst)
      have HSUM := hid (sumT_in HG.out (stp_lt (Z := Z) htl))
      have HW := hid (decide_eq_false hw)
      have HST := hid hst
      clear hne hw hst ht htl
      go_wp2_with fail
      refine (wet_any W H ao n cap Z HG.out t HTL.out _ hS.out.lb.ints).mono ?_
      rw [HW.out]
      rintro r w2 ⟨rfl, hb2⟩
      have HS2 := hid (hS.out.stays hb2)
      clear hb2 c0 c1 c2
      have c0 := HS2.out.lb.c0
      have c1 := HS2.out.lb.c1
      have c2 := HS2.out.lb.c2
      go_wp2_with fail
      refine (lowest_any W H ao n cap Z HG.out t HTL.out _ HS2.out.lb.ints).mono ?_
      obtain ⟨q, hq⟩ : ∃ q, stp W H Z t = q := ⟨_, rfl⟩
      rw [hq]
      rintro r w3 ⟨rfl, hb3⟩
      have HS3 := hid (HS2.out.stays hb3)
      have hqt : ((q : Int) == (t : Int)) = false := by have := HST.out; rw [hq] at this; simp; omega
      have HX : Hid (rvI W H Z u (k + 1) = q) := hid (by show ((stp W H Z (rvr W H Z u k) : Nat) : Int) = q; rw [HT.out, hq])
      have HQ := hid hq
      have hsz := HS3.out.lb.size
      clear hb3 c0 c1 c2 hq
      go_wp2_with (at_builtin; refine wpList_append_own _ rfl _ _ 22 rfl (w.heap.size + 1) 3 i0 (.int .i64 0) 1 8 Try.underlying22 HIN.out.1 HIN.out.2.1 HIN.out.2.2.1 HIN.out.2.2.2 rfl (by decide) _ _ _ rfl (HS3.out.row.alloc _) ⟨w3.heap.size, 0, none⟩ 1 1 [.int .i64 q] rfl rfl ?c1 ?c2 ?c3 ?c4 ?c5 ?_)
      case c1 =>
        intro j u hj
        match j, hj with
        | 0, hj => simp at hj; subst hj; simp [Addr.add]
      case c2 => intro u hu; simp at hu; rcases hu with rfl; rfl
      case c3 => unfold maxLen; omega
      case c4 => omega
      case c5 => simp; omega
      intro v' w4 hown hgrow _
      have H4 := hid (RV.app (v' := v') (w' := w4) HI.out HS3.out (by rw [HX.out]; exact hgrow) (by rw [HX.out]; exact hown))
      clear hown hgrow
      go_wp2_with fail
      go_roundw
      case rel => exact ⟨k + 1, by omega, by show _ = Value.int .i64 (rvI W H Z u (k + 1)); rw [HX.out], H4⟩
      case measure =>
        have := HLO.out
        have := HSUM.out
        rw [HQ.out] at *
        simp [intOf]; omega
    · obtain rfl : k = m := by omega
      have he : Ends W H Z t := by rw [← ht]; exact HR.out.ends
      have HE : ∀ (v : Value) (w' : World), RV W H ao n cap Z v (k + 1) (rvI W H Z u) w w' → ∃ v', Ending.returned (.tuple #[v, .int .i64 0]) = .returned (.tuple #[v', .int .i64 0]) ∧ w'.ownsRow w.heap.size 3 1 v' (k + 1) (ints (k + 1) (rvI W H Z u)) ∧ Below w.heap.size w w' :=
        fun v w' h => ⟨v, rfl, h.row.mono' (Nat.le_succ _), h.lb.below⟩
      have HEE := hid HE
      clear ht htl HE
      by_cases hw : top W Z t ≤ 2
      · have HW := hid (decide_eq_true hw)
        clear he hw
        go_wp2_with fail
        refine (wet_any W H ao n cap Z HG.out t HTL.out _ hS.out.lb.ints).mono ?_
        rw [HW.out]
        rintro r w2 ⟨rfl, hb2⟩
        have HS2 := hid (hS.out.stays hb2)
        clear hb2 c0 c1 c2
        go_wp2_with fail
        go_ret2
        exact HEE.out _ _ HS2.out
      · have hst : stp W H Z t = t := by
          rcases he with h | h
          · exact absurd h hw
          · exact h
        have HW := hid (decide_eq_false hw)
        have HST := hid hst
        clear he hw hst
        go_wp2_with fail
        refine (wet_any W H ao n cap Z HG.out t HTL.out _ hS.out.lb.ints).mono ?_
        rw [HW.out]
        rintro r w2 ⟨rfl, hb2⟩
        have HS2 := hid (hS.out.stays hb2)
        clear hb2 c0 c1 c2
        have c0 := HS2.out.lb.c0
        have c1 := HS2.out.lb.c1
        have c2 := HS2.out.lb.c2
        go_wp2_with fail
        refine (lowest_any W H ao n cap Z HG.out t HTL.out _ HS2.out.lb.ints).mono ?_
        rw [HST.out]
        rintro r w3 ⟨rfl, hb3⟩
        have HS3 := hid (HS2.out.stays hb3)
        clear hb3 c0 c1 c2
        go_wp2_with fail
        go_ret2
        exact HEE.out _ _ HS3.out
end Go.Proofs.Ytngamphkehppfaa
