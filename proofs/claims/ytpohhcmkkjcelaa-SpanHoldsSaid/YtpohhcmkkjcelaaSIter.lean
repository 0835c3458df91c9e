/-
  The tiles between the heads of a span, as an iterator: its contract.
-/
import Derived.Test.YtpohhcmkkjcelaaSLook
import Derived.RangeFuncNested
import Derived.RangeFuncBound
import Derived.RangeFuncCalls
import Derived.RangeFuncLeaves
import Derived.Shelf.Abstract
import Derived.Shelf.RegionOpen
import Derived.OwnWalkIn
import Derived.TacticsInMore
import Derived.LoopNIn
import Derived.LoopIn
namespace Go.Proofs.Ytpohhcmkkjcelaa
open Go.RowKit Go.Shelf
theorem wide_fn (k : Nat) : Fence.wide.fn k = True := rfl
theorem wide_depth : Fence.wide.depth = none := rfl
attribute [local go_sem] Oper.semAt_some wide_fn wide_depth

set_option maxHeartbeats 800000 in
theorem between_any (W H : Int) (s : Value) (k a b u : Int) (w : World) :
    Calls Try.prog 50 #[lv W H s, sv k a b u] w fun e w' => e = .returned (.func (.func 74) #[] #[.pointer (some ⟨w.heap.size, 0, none⟩), .pointer (some ⟨w.heap.size + 1, 0, none⟩)]) ∧
      (w.alloc (.cells #[.int .i64 W, .int .i64 H, s] 24)).alloc (.cells #[.int .i64 k, .int .i64 a, .int .i64 b, .int .i64 u] 26) = w' := by
  go_enter Try.func50, Try.ntmps50
  go_wp2
  go_ret
  exact ⟨rfl, rfl⟩

theorem below_grown {w w' : World} (h : Below w.heap.size w w') : w.grownBy w' none := ⟨h.os, h.tape, h.output, h.size, fun k hk _ => h.block k hk⟩
theorem below_others {w w' : World} (h : Below w.heap.size w w') : KeepsOthers w w' := ⟨h.size, fun k _ hk _ => (h.block k (heap_lt hk)).trans hk⟩
/-- The i-th tile between, as the iterator hands it over. -/
def tl (a d i : Nat) : Int := ((a + (i + 1) * d : Nat) : Int)
theorem tl_eq (a d i : Nat) : tl a d i = ((a + (i + 1) * d : Nat) : Int) := rfl
abbrev encT (a d c : Nat) (i : Fin c) : Array Value := #[.int .i64 (tl a d i.val)]
theorem take_succ_fin {c i : Nat} (h : i < c) : (List.finRange c).take (i + 1) = (List.finRange c).take i ++ [⟨i, h⟩] := by
  rw [List.take_succ_eq_append_getElem (by simpa using h)]
  simp
set_option maxRecDepth 100000 in
set_option maxHeartbeats 3200000 in
theorem iter_stops (m : Nat) {W H : Nat} (hW1 : 4 ≤ W) (hW : W ≤ 32) {ao : Option Addr} {n cap : Nat} {Z : Nat → Int} {k u : Int} {a b : Nat} (ha : a ≤ 1024) (hb0 : b ≤ 1024) (hl : Line W a b) (d c : Nat) (hd : d = stp W a b) (hc : c = cnt d a b) {w wr : World} (h : MB W H ao n cap Z k a b u w wr) {A : Nat} (hA : A = w.heap.size) :
    SeqStopsK Fence.wide m Try.prog 74 #[.pointer (some ⟨A, 0, none⟩), .pointer (some ⟨A + 1, 0, none⟩)] (encT a d c) (Below (A + 2))
      (fun xs => xs = List.finRange c) (fun pre => pre <+: List.finRange c) c wr := fun l J Jx W1 hW1' hJ hJx hY h0 => by
  subst hA
  have H1 := hid (h.stays hW1')
  have hsp := stp_pos (W := W) (a := a) (b := b) hW1
  have hML : ∀ i, a + (i + 1) * stp W a b < b ↔ i < cnt (stp W a b) a b := fun i => mid_lt hsp.1 hl.1
  rw [← hd] at hML hsp
  rw [← hc] at hML
  have HD := hid hd
  have HML := hid hML
  have HY := hid hY
  have HJ := hid hJ
  have c0 := H1.out.c0
  have c1 := H1.out.c1
  have c2 := H1.out.c2
  have d0 := H1.out.d0
  have d1 := H1.out.d1
  have d2 := H1.out.d2
  have d3 := H1.out.d3
  have hz := H1.out.size
  clear hY hd hc h hJ hJx hW1' hl hML
  refine callsIn_of_wp Try.func74 rfl trivial ?_ rfl
  simp only [Try.ntmps74, List.size_toArray, List.length_cons, List.length_nil, Nat.reduceAdd, Nat.reduceSub, Array.replicate_succ, Array.replicate_zero, List.push_toArray, List.append_toArray, List.nil_append, List.cons_append]
  gi_wp2_with (gi_at_call 73; refine (callsIn_wide.2 (step_any W H hW1 hW ao n cap Z k u a b ha hb0 _ H1.out.ints)).mono ?_; rw [← HD.out]; rintro e w2 ⟨rfl, hb2⟩; have H2 := hid (H1.out.stays hb2); have h02 := HJ.out _ _ _ _ h0 (below_grown hb2) (fun r e => by cases e); have HB2 : Hid (Below (w.heap.size + 2) W1 w2) := hid (hb2.mono (by omega)); clear c0 c1 c2 d0 d1 d2 d3 hb2 h0; have d1 := H2.out.d1; have d2 := H2.out.d2)
  gi_loopw [5] (fun p wr => ∃ i : Nat, i ≤ c ∧ p = .int .i64 ((a + (i + 1) * d : Nat) : Int) ∧ J ((List.finRange c).take i) wr ∧ Hid (Below (w.heap.size + 2) W1 wr)) (fun p _ => b + d - (intOf p).toNat)
  case atStart => exact ⟨0, Nat.zero_le _, congrArg _ (by push_cast; omega), by simpa using h02, HB2⟩
  case round =>
    obtain ⟨i, hi, rfl, hJi, hB⟩ := hrel
    have hz1 := H1.out.size
    have d2' := (hB.out.cell (p := ⟨w.heap.size + 1, 2, none⟩) (by show w.heap.size + 1 < _; omega)).trans H1.out.d2
    obtain ⟨t, ht⟩ : ∃ t, t = a + (i + 1) * d := ⟨_, rfl⟩
    have hml := HML.out i
    rw [← ht] at hml ⊢
    by_cases hlt : i < c
    · have htb := hml.2 hlt
      have hln : ((List.finRange c).take i).length < c := by simp; omega
      obtain ⟨fn, tmps, assign, body, hy, hR⟩ := HY.out _ ⟨i, hlt⟩ wr hJi hln
      dsimp only [encT] at hy
      rw [tl_eq] at hy
      rw [← ht] at hy
      have HT := hid ht
      rw [← take_succ_fin hlt] at hR
      have HR := hid hR
      clear hR ht hml hln HML d1 d2
      gi_wp2
      refine HR.out.mono ?_
      rintro e W3 (⟨rfl, hJ3, hk3⟩ | ⟨rfl, hJx3⟩)
      · have hd32 := hsp.2
        have hB3 : Hid (Below (w.heap.size + 2) W1 W3) := hid (hB.out.trans hk3)
        have w1 : IntKind.i64.wrap ((t : Int) + (d : Int)) = (t : Int) + (d : Int) := by rw [IntKind.wrap_i64]; omega
        clear hk3
        gi_wp2
        go_roundw
        case rel => exact ⟨i + 1, hlt, congrArg _ (by rw [show a + (i + 1 + 1) * d = t + d from by rw [HT.out, Nat.succ_mul (i + 1), Nat.add_assoc]]; simp), hJ3, hB3⟩
        case measure => simp [intOf]; omega
      · gi_wp2
        refine bodyPost_ret (results_none rfl _ _ _) rfl ?_
        exact ⟨⟨_, rfl⟩, .inr ⟨_, List.take_prefix _ _, hJx3⟩⟩
    · obtain rfl : i = c := by omega
      have htb : b ≤ t := by omega
      have hJi' : J (List.finRange i) wr := by
        have : (List.finRange i).take i = List.finRange i := by rw [List.take_of_length_le (by simp)]
        rwa [this] at hJi
      clear hml HML ht
      gi_wp2
      go_end0
      exact ⟨⟨_, rfl⟩, .inl ⟨_, rfl, hJi'⟩⟩
end Go.Proofs.Ytpohhcmkkjcelaa
