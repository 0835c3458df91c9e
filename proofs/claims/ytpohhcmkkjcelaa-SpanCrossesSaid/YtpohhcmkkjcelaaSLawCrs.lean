/-
  The walk of the law on crossing.
-/
import Derived.Test.YtpohhcmkkjcelaaSRCrs
import Derived.Test.YtpohhcmkkjcelaaSKnown
namespace Go.Proofs.Ytpohhcmkkjcelaa
open Go.RowKit

set_option maxRecDepth 20000 in
set_option maxHeartbeats 6400000 in
theorem walk_crosses (W H : Int) (ao : Option Addr) (n cap : Nat) (Z : Nat → Int) (hn : n ≤ 9223372036854775807) (lo : Option Addr) (m lcap : Nat) (hm : m ≤ 9223372036854775807) (S : Nat → Sp) (t s : Int) (w : World) (hI : Ints w ao n Z) (hS : SpansAt w lo m S) :
    Calls Try.prog 7 #[lv W H (.slice ao n cap), .slice lo m lcap, .int .i64 t, .int .i64 s] w fun r w' => r = .returned (.bool true) ∧ Below w.heap.size w w' := by
  have HM := hid (lb_start (W := W) (H := H) (cap := cap) hI)
  have HS := hid hS
  clear hI hS
  by_cases hf : 3000 < n ∨ 300 < m
  · go_enter Try.func7, Try.ntmps7
    go_upto_region 1 with fail
    generalize World.alloc w _ = wm at HM ⊢
    have c0 := HM.out.c0; have c1 := HM.out.c1; have c2 := HM.out.c2; have hz := HM.out.size
    go_wp2_with (first | (go_at_call 12; (with_reducible refine (far_yes W H ao n cap lo m lcap hn hm hf _).mono ?_); rintro e w1 ⟨rfl, hb⟩; have HN := hid (HM.out.stays hb); clear hb c0 c1 c2 hz HM; have HM := HN; clear HN; have c0 := HM.out.c0; have c1 := HM.out.c1; have c2 := HM.out.c2; have hz := HM.out.size) | (go_at_call 13; (with_reducible refine (known_any _).mono ?_); rintro e w1 ⟨rfl, hb⟩; have HN := hid (HM.out.stays hb); clear hb c0 c1 c2 hz HM; have HM := HN; clear HN; have c0 := HM.out.c0; have c1 := HM.out.c1; have c2 := HM.out.c2; have hz := HM.out.size))
    go_ret
    exact ⟨rfl, HM.out.below⟩
  · have hf : n ≤ 3000 ∧ m ≤ 300 := by omega
    have hm2 : m ≤ 300 := hf.2
    obtain ⟨ot, c, e, hc⟩ := CrossIs.ex W H n Z m S t s
    have HC := hid hc
    clear hc
    go_enter Try.func7, Try.ntmps7
    go_upto_region 1 with fail
    generalize World.alloc w _ = wm at HM ⊢
    have c0 := HM.out.c0; have c1 := HM.out.c1; have c2 := HM.out.c2; have hz := HM.out.size
    go_wp2_with (first | (go_at_call 12; (with_reducible refine (far_no W H ao n cap lo m lcap hf _).mono ?_); rintro e w1 ⟨rfl, hb⟩; have HN := hid (HM.out.stays hb); clear hb c0 c1 c2 hz HM; have HM := HN; clear HN; have c0 := HM.out.c0; have c1 := HM.out.c1; have c2 := HM.out.c2; have hz := HM.out.size) | (go_at_call 13; (with_reducible refine (known_any _).mono ?_); rintro e w1 ⟨rfl, hb⟩; have HN := hid (HM.out.stays hb); clear hb c0 c1 c2 hz HM; have HM := HN; clear HN; have c0 := HM.out.c0; have c1 := HM.out.c1; have c2 := HM.out.c2; have hz := HM.out.size) | (go_at_call 23; (with_reducible refine (rcross_to W H ao n cap Z hn lo m lcap S hm2 t s ot c e HC.out _ HM.out.ints (HS.out.stays HM.out.below)).mono ?_); rintro e w1 ⟨rfl, hb⟩; have HN := hid (HM.out.stays hb); clear hb c0 c1 c2 hz HM; have HM := HN; clear HN; have c0 := HM.out.c0; have c1 := HM.out.c1; have c2 := HM.out.c2; have hz := HM.out.size) | (go_at_call 24; (with_reducible refine (spcross_to W H ao n cap Z hn lo m lcap S hm2 t s ot c e HC.out _ HM.out.ints (HS.out.stays HM.out.below)).mono ?_); rintro e w1 ⟨rfl, hb⟩; have HN := hid (HM.out.stays hb); clear hb c0 c1 c2 hz HM; have HM := HN; clear HN; have c0 := HM.out.c0; have c1 := HM.out.c1; have c2 := HM.out.c2; have hz := HM.out.size))
    go_ret
    exact ⟨rfl, HM.out.below⟩
end Go.Proofs.Ytpohhcmkkjcelaa
