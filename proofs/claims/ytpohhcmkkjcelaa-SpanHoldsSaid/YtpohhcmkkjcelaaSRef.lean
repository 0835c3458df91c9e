/-
  The walks of gap, Between and price of the reference.
-/
import Derived.Test.YtpohhcmkkjcelaaSIter
namespace Go.Proofs.Ytpohhcmkkjcelaa
open Go.RowKit

theorem row_slice {w : World} {B : Nat} {e : TypeId} {size n : Nat} {v : Value} {xs : List Value} (h : w.ownsRow B e size v n xs) : ∃ ao cap, v = .slice ao n cap := by
  rcases h.2 with ⟨rfl, rfl⟩ | ⟨g, cap, _, rfl, _⟩
  · exact ⟨none, 0, rfl⟩
  · exact ⟨_, _, rfl⟩
theorem MB.low {W H : Int} {ao : Option Addr} {n cap : Nat} {Z : Nat → Int} {k a b u : Int} {w wr w' : World} (hm : MB W H ao n cap Z k a b u w wr) (hI : Ints w ao n Z) (hb : Below (w.heap.size + 2) wr w') : MB W H ao n cap Z k a b u w w' := by
  have k3 := hm.below.trans (hb.mono (by omega))
  exact ⟨k3, Nat.lt_of_lt_of_le hm.size hb.size, (hb.cell (p := ⟨w.heap.size, 0, none⟩) (by show w.heap.size < _; omega)).trans hm.c0, (hb.cell (p := ⟨w.heap.size, 1, none⟩) (by show w.heap.size < _; omega)).trans hm.c1, (hb.cell (p := ⟨w.heap.size, 2, none⟩) (by show w.heap.size < _; omega)).trans hm.c2,
    (hb.cell (p := ⟨w.heap.size + 1, 0, none⟩) (by show w.heap.size + 1 < _; omega)).trans hm.d0, (hb.cell (p := ⟨w.heap.size + 1, 1, none⟩) (by show w.heap.size + 1 < _; omega)).trans hm.d1, (hb.cell (p := ⟨w.heap.size + 1, 2, none⟩) (by show w.heap.size + 1 < _; omega)).trans hm.d2, (hb.cell (p := ⟨w.heap.size + 1, 3, none⟩) (by show w.heap.size + 1 < _; omega)).trans hm.d3, hI.stays k3⟩

set_option maxHeartbeats 3200000 in
theorem gap_any (W H : Nat) (hW1 : 4 ≤ W) (hW : W ≤ 32) (s : Value) (k u : Int) (a b : Nat) (ha : a ≤ 1024) (hb0 : b ≤ 1024) (g : Nat) (hg : g = gapN W a b) (w : World) :
    Calls Try.prog 46 #[lv W H s, sv k a b u] w fun e w' => e = .returned (.int .i64 (g : Int)) ∧ Below w.heap.size w w' := by
  obtain ⟨x, hx⟩ : ∃ x, x = a / W := ⟨_, rfl⟩
  obtain ⟨y, hy⟩ : ∃ y, y = b / W := ⟨_, rfl⟩
  obtain ⟨x', hx'⟩ : ∃ x, x = a % W := ⟨_, rfl⟩
  obtain ⟨y', hy'⟩ : ∃ y, y = b % W := ⟨_, rfl⟩
  have e1 : (a : Int) / (W : Int) = (x : Int) := by rw [hx]; simp
  have e2 : (b : Int) / (W : Int) = (y : Int) := by rw [hy]; simp
  have e3 : (a : Int) % (W : Int) = (x' : Int) := by rw [hx']; simp
  have e4 : (b : Int) % (W : Int) = (y' : Int) := by rw [hy']; simp
  have hx2 : x ≤ 1024 := by rw [hx]; exact Nat.le_trans (Nat.div_le_self _ _) ha
  have hy2 : y ≤ 1024 := by rw [hy]; exact Nat.le_trans (Nat.div_le_self _ _) hb0
  have hx3 : x' ≤ 1024 := by rw [hx']; exact Nat.le_trans (Nat.mod_le _ _) ha
  have hy3 : y' ≤ 1024 := by rw [hy']; exact Nat.le_trans (Nat.mod_le _ _) hb0
  have w1 : IntKind.i64.wrap (x : Int) = (x : Int) := by rw [IntKind.wrap_i64]; omega
  have w2 : IntKind.i64.wrap (y : Int) = (y : Int) := by rw [IntKind.wrap_i64]; omega
  have w3 : IntKind.i64.wrap (x' : Int) = (x' : Int) := by rw [IntKind.wrap_i64]; omega
  have w4 : IntKind.i64.wrap (y' : Int) = (y' : Int) := by rw [IntKind.wrap_i64]; omega
  have HG : Hid (g = if x = y then 1 else if x' = y' then W else 0) := hid (by
    rw [hg, hx, hy, hx', hy']; unfold gapN InRow InCol; rfl)
  have HW := hid (Joins.below_alloc2 w (.cells #[.int .i64 W, .int .i64 H, s] 24) (.cells #[.int .i64 k, .int .i64 a, .int .i64 b, .int .i64 u] 26))
  clear hx hy hx' hy' hg
  by_cases h1 : x = y
  · have hg1 : g = 1 := by rw [HG.out, if_pos h1]
    subst hg1
    have g1 : ((x : Int) == (y : Int)) = true := by rw [beq_iff_eq]; omega
    clear h1
    go_enter Try.func46, Try.ntmps46
    go_wp2_with fail
    go_quiet (fail)
    go_wp2_with fail
    go_ret
    exact ⟨rfl, HW.out.trans (Joins.below_draws _ _ _)⟩
  · have g1 : ((x : Int) == (y : Int)) = false := by rw [beq_eq_false_iff_ne]; omega
    by_cases h2 : x' = y'
    · have hg1 : g = W := by rw [HG.out, if_neg h1, if_pos h2]
      have HGW := hid hg1
      have g2 : ((x' : Int) == (y' : Int)) = true := by rw [beq_iff_eq]; omega
      clear h1 h2 hg1
      go_enter Try.func46, Try.ntmps46
      go_wp2_with fail
      go_quiet (fail)
      go_wp2_with fail
      go_quiet (fail)
      go_wp2_with fail
      go_ret
      exact ⟨by rw [HGW.out]; rfl, HW.out.trans (Joins.below_draws _ _ _)⟩
    · have hg1 : g = 0 := by rw [HG.out, if_neg h1, if_neg h2]
      subst hg1
      have g2 : ((x' : Int) == (y' : Int)) = false := by rw [beq_eq_false_iff_ne]; omega
      clear h1 h2
      go_enter Try.func46, Try.ntmps46
      go_wp2_with fail
      go_quiet (fail)
      go_wp2_with fail
      go_quiet (fail)
      go_wp2_with fail
      go_ret
      exact ⟨rfl, by first | exact HW.out.trans (Joins.below_draws _ _ _) | exact (HW.out.trans (Joins.below_draws _ _ _)).trans (Joins.below_draws _ _ _)⟩

/-- The tiles between, as cells. -/
abbrev tls (a d : Nat) : Nat → Value := fun i => .int .i64 (tl a d i)
/-- The memory of Between. -/
structure BT (W H : Int) (ao : Option Addr) (n cap : Nat) (Z : Nat → Int) (k : Int) (a b : Nat) (u : Int) (d : Nat) (v : Value) (i : Nat) (w wr : World) : Prop where
  mb : MB W H ao n cap Z k a b u w wr
  row : wr.ownsRow (w.heap.size + 2) 3 1 v i (vals i (tls a d))
theorem BT.app {W H : Int} {ao : Option Addr} {n cap : Nat} {Z : Nat → Int} {k : Int} {a b : Nat} {u : Int} {d : Nat} {v v' : Value} {i : Nat} {w wr w' : World} (hI : Ints w ao n Z) (h : BT W H ao n cap Z k a b u d v i w wr)
    (hg : (wr.alloc (.cells #[.int .i64 (tl a d i)] 3)).grownBy w' v.ownBlock) (hn : w'.ownsRow (w.heap.size + 2) 3 1 v' (i + 1) (vals i (tls a d) ++ [.int .i64 (tl a d i)])) : BT W H ao n cap Z k a b u d v' (i + 1) w w' := by
  have hz := h.mb.size
  have hb : Below (w.heap.size + 2) wr w' := ((Below.refl _ wr).alloc (by omega) (.cells #[.int .i64 (tl a d i)] 3)).grown hg (by simp; omega) (fun j hj => (h.row.lt j hj).1)
  exact ⟨h.mb.low hI hb, by rw [vals_succ]; exact hn⟩

set_option maxHeartbeats 3200000 in
theorem between_to {W H : Nat} (hW1 : 4 ≤ W) (hW : W ≤ 32) (ao : Option Addr) (n cap : Nat) (Z : Nat → Int) (k u : Int) (a b : Nat) (ha : a ≤ 1024) (hb0 : b ≤ 1024) (hl : Line W a b) (d c : Nat) (hd : d = stp W a b) (hc : c = cnt d a b) (w : World) (hI : Ints w ao n Z) :
    Calls Try.prog 43 #[lv W H (.slice ao n cap), sv k a b u] w fun e w' => ∃ v, e = .returned v ∧ w'.ownsRow w.heap.size 3 1 v c (vals c (tls a d)) ∧ Below w.heap.size w w' := by
  obtain ⟨i0, hi, hz0, hz1, hz2⟩ := info_parts info3
  have HIN := hid (And.intro hi (And.intro hz0 (And.intro hz1 hz2)))
  clear hi hz0 hz1 hz2
  have HM := hid (mb_start (W := W) (H := H) (cap := cap) (k := k) (a := a) (b := b) (u := u) hI)
  have HI := hid hI
  have hsp := stp_pos (W := W) (a := a) (b := b) hW1
  have hML : ∀ i, a + (i + 1) * stp W a b < b ↔ i < cnt (stp W a b) a b := fun i => mid_lt hsp.1 hl.1
  rw [← hd] at hML hsp
  rw [← hc] at hML
  have HG : Hid (d = gapN W a b) := hid (by rw [gap_stp hl.2]; exact hd)
  have HML := hid hML
  have hc2 : c ≤ 1024 := by rw [hc]; unfold cnt; exact Nat.le_trans (Nat.div_le_self _ _) (by omega)
  obtain ⟨hsp1, hsp2⟩ := hsp
  have hd0 : ((d : Int) == 0) = false := by rw [beq_eq_false_iff_ne]; omega
  clear hI hl hd hc hML
  go_enter Try.func43, Try.ntmps43
  go_wp2_with fail
  refine (gap_any W H hW1 hW _ k u a b ha hb0 d HG.out _).mono ?_
  rintro e w1 ⟨rfl, hb1⟩
  have H1 := hid (HM.out.stays hb1)
  have HB1 : Hid (BT W H ao n cap Z k a b u d (.slice none 0 0) 0 w w1) := hid ⟨H1.out, World.ownsRow_nil _ _ _ _⟩
  have d1 := H1.out.d1
  have d2 := H1.out.d2
  clear hb1 HM H1
  go_wp2_with fail
  go_loopw [6, 7] (fun v p wr => ∃ i : Nat, i ≤ c ∧ p = .int .i64 ((a + (i + 1) * d : Nat) : Int) ∧ Hid (BT W H ao n cap Z k a b u d v i w wr)) (fun _ p _ => b + d - (intOf p).toNat)
  case atStart => exact ⟨0, Nat.zero_le _, congrArg _ (by push_cast; omega), HB1⟩
  case round =>
    obtain ⟨i, hi, rfl, hB⟩ := hrel
    clear HB1 d1 d2
    have d2 := hB.out.mb.d2
    have hz := hB.out.mb.size
    obtain ⟨t, ht⟩ : ∃ t, t = a + (i + 1) * d := ⟨_, rfl⟩
    have hml := HML.out i
    rw [← ht] at hml ⊢
    by_cases hlt : i < c
    · have htb := hml.2 hlt
      have HT := hid ht
      have w1 : IntKind.i64.wrap ((t : Int) + (d : Int)) = (t : Int) + (d : Int) := by rw [IntKind.wrap_i64]; omega
      have HB := hid hB.out
      have htl : tl a d i = (t : Int) := by rw [tl_eq, ht]
      have HTL := hid htl
      clear ht hml hB htl
      go_wp2_with (at_builtin; refine wpList_append_own _ rfl _ _ 22 rfl (w.heap.size + 2) 3 i0 (.int .i64 0) 1 8 Try.underlying22 HIN.out.1 HIN.out.2.1 HIN.out.2.2.1 HIN.out.2.2.2 rfl (by decide) _ _ _ rfl (HB.out.row.alloc _) ⟨wr.heap.size, 0, none⟩ 1 1 [.int .i64 t] rfl rfl ?c1 ?c2 ?c3 ?c4 ?c5 ?_)
      case c1 =>
        intro j u hj
        match j, hj with
        | 0, hj => simp at hj; subst hj; simp [Addr.add]
      case c2 => intro u hu; simp at hu; rcases hu with rfl; rfl
      case c3 => unfold maxLen; omega
      case c4 => omega
      case c5 => simp; omega
      intro v' w4 hown hgrow _
      have H4 := hid (BT.app (v' := v') (w' := w4) HI.out HB.out (by rw [HTL.out]; exact hgrow) (by rw [HTL.out]; exact hown))
      clear hown hgrow d2
      go_wp2_with fail
      go_roundw
      case rel => exact ⟨i + 1, hlt, congrArg _ (by rw [show a + (i + 1 + 1) * d = t + d from by rw [HT.out, Nat.succ_mul (i + 1), Nat.add_assoc]]; simp), H4⟩
      case measure => simp [intOf]; omega
    · obtain rfl : i = c := by omega
      have htb : b ≤ t := by omega
      clear hml HML ht
      go_wp2_with fail
      go_ret
      exact ⟨_, rfl, row_mono hB.out.row (by omega), hB.out.mb.below⟩

set_option maxHeartbeats 3200000 in
theorem price_any {W H : Nat} (hW1 : 4 ≤ W) (hW : W ≤ 32) (ao : Option Addr) (n cap : Nat) (Z : Nat → Int) (k u : Int) (hk : 0 ≤ k ∧ k ≤ 1) (a b : Nat) (ha : a ≤ 1024) (hb0 : b ≤ 1024) (hl : Line W a b) (w : World) (hI : Ints w ao n Z) :
    Calls Try.prog 33 #[lv W H (.slice ao n cap), sv k a b u] w fun e w' => e = .returned (.int .i64 (prc k (cnt (stp W a b) a b))) ∧ Below w.heap.size w w' := by
  have HM := hid (mb_start (W := W) (H := H) (cap := cap) (k := k) (a := a) (b := b) (u := u) hI)
  obtain ⟨d, hd⟩ : ∃ d, d = stp W a b := ⟨_, rfl⟩
  rw [← hd]
  obtain ⟨c, hc⟩ : ∃ c, c = cnt d a b := ⟨_, rfl⟩
  have HC := hid hc
  have HD := hid hd
  rw [← hc]
  have hc2 : c ≤ 1024 := by rw [hc]; unfold cnt; exact Nat.le_trans (Nat.div_le_self _ _) (by omega)
  have HL := hid hl
  obtain ⟨m, hm⟩ : ∃ m, m = c * c := ⟨_, rfl⟩
  have hm2 : m ≤ 1024 * 1024 := by rw [hm]; exact Nat.mul_le_mul hc2 hc2
  have e1 : (c : Int) * (c : Int) = (m : Int) := by rw [hm]; simp
  unfold prc
  rw [e1]
  obtain ⟨p, hp⟩ : ∃ p : Int, p = (m : Int) * 1000 / 4 := ⟨_, rfl⟩
  have hp2 : 0 ≤ p ∧ p ≤ 1000000000 := by rw [hp]; omega
  have w1 : IntKind.i64.wrap p = p := by rw [IntKind.wrap_i64]; omega
  have w2 : IntKind.i64.wrap ((m : Int) * 1000) = (m : Int) * 1000 := by rw [IntKind.wrap_i64]; omega
  have w3 : IntKind.i64.wrap (m : Int) = (m : Int) := by rw [IntKind.wrap_i64]; omega
  have e3 : (m : Int) * 1000 / 4 = p := hp.symm
  rw [e3]
  clear hI hc hd hm hl hp
  rcases (show k = 0 ∨ k = 1 by omega) with rfl | rfl
  all_goals
    clear hk
    go_enter Try.func33, Try.ntmps33
    go_wp2_with fail
    refine (between_to hW1 hW ao n cap Z _ u a b ha hb0 HL.out d c HD.out HC.out _ HM.out.ints).mono ?_
    rintro e w1 ⟨v, rfl, hrow, hb1⟩
    obtain ⟨vo, vc, rfl⟩ := row_slice hrow
    have H1 := hid (HM.out.stays hb1)
    have d0 := H1.out.d0
    clear hb1 hrow
    go_wp2_with fail
    go_ret
    exact ⟨ret_int (by omega), H1.out.below⟩
end Go.Proofs.Ytpohhcmkkjcelaa
