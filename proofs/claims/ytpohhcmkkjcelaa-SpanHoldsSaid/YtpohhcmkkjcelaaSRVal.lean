/-
  The walks of Validate and Cost of the reference.
-/
import Derived.Test.YtpohhcmkkjcelaaSRErr0
import Derived.Test.YtpohhcmkkjcelaaSRErr1
import Derived.Test.YtpohhcmkkjcelaaSVOn
namespace Go.Proofs.Ytpohhcmkkjcelaa
open Go.RowKit

theorem rerr_to {W H : Nat} (ao : Option Addr) (n cap : Nat) (Z : Nat → Int) (hg : Good W H n Z) (k a b u e : Int) (h : SErr W H Z k a b u e) (w : World) (hI : Ints w ao n Z) :
    Calls Try.prog 30 #[lv W H (.slice ao n cap), sv k a b u] w fun r w' => r = .returned (.int .i64 e) ∧ Below w.heap.size w w' := by
  have h' := h
  cases h with
  | arg h1 => exact rerr_early ao n cap Z hg k a b u _ h' (.inl rfl) w hI
  | none h1 h2 => exact rerr_early ao n cap Z hg k a b u _ h' (.inr (.inl rfl)) w hI
  | fit p q h1 e1 e2 h2 h3 h4 => exact rerr_early ao n cap Z hg k a b u _ h' (.inr (.inr rfl)) w hI
  | limit p q h1 e1 e2 hp hq hl hn =>
    subst e1 e2
    exact rerr_limit ao n cap Z hg k u h1 p q hp hq hl hn w hI
  | slope p q h1 e1 e2 hp hq hl hn hs =>
    subst e1 e2
    rcases (show k = 0 ∨ k = 1 by have := h1.1; have := h1.2.1; omega) with rfl | rfl
    · exact rerr_late0 ao n cap Z hg u h1 p q hp hq hl hn 5 (fun _ => rfl) (fun h => absurd h hs) w hI
    · exact rerr_late1 ao n cap Z hg u h1 p q hp hq hl hn 5 (fun _ => rfl) (fun h => absurd h hs) w hI
  | ok p q h1 e1 e2 hp hq hl hn hs =>
    subst e1 e2
    rcases (show k = 0 ∨ k = 1 by have := h1.1; have := h1.2.1; omega) with rfl | rfl
    · exact rerr_late0 ao n cap Z hg u h1 p q hp hq hl hn 0 (fun h => absurd hs h) (fun _ => rfl) w hI
    · exact rerr_late1 ao n cap Z hg u h1 p q hp hq hl hn 0 (fun h => absurd hs h) (fun _ => rfl) w hI

set_option maxRecDepth 20000 in
set_option maxHeartbeats 3200000 in
theorem rvalidate_to (W H : Int) (ao : Option Addr) (n cap : Nat) (Z : Nat → Int) (hn : n ≤ 9223372036854775807) (k a b u e : Int) (h : FErr W H n Z k a b u e) (w : World) (hI : Ints w ao n Z) :
    Calls Try.prog 14 #[lv W H (.slice ao n cap), sv k a b u] w fun r w' => r = .returned (.int .i64 e) ∧ Below w.heap.size w w' := by
  have HM := hid (mb_start (W := W) (H := H) (cap := cap) (k := k) (a := a) (b := b) (u := u) hI)
  clear hI
  rcases h with ⟨h0, hv⟩ | ⟨W', H', rfl, rfl, hg, hs⟩
  · have HV := hid hv
    have g : (e != 0) = true := by simpa using h0
    have g2 : (e == 0) = false := by simpa using h0
    clear hv
    go_enter Try.func14, Try.ntmps14
    go_upto_region 1 with fail
    generalize World.alloc (World.alloc w _) _ = wm at HM ⊢
    have c0 := HM.out.c0; have c1 := HM.out.c1; have c2 := HM.out.c2; have d0 := HM.out.d0; have d1 := HM.out.d1; have d2 := HM.out.d2; have d3 := HM.out.d3; have hz := HM.out.size
    go_wp2_with (go_at_call 29; (with_reducible refine (refvalidate_any W H ao n cap Z hn _ HM.out.ints e HV.out).mono ?_); rintro e w1 ⟨rfl, hb⟩; have HN := hid (HM.out.stays hb); clear hb c0 c1 c2 d0 d1 d2 d3 hz HM; have HM := HN; clear HN; have c0 := HM.out.c0; have c1 := HM.out.c1; have c2 := HM.out.c2; have d0 := HM.out.d0; have d1 := HM.out.d1; have d2 := HM.out.d2; have d3 := HM.out.d3; have hz := HM.out.size)
    go_ret
    exact ⟨rfl, HM.out.below⟩
  · have HV := hid hg.err
    have HG := hid hg
    have HS := hid hs
    clear hg hs
    go_enter Try.func14, Try.ntmps14
    go_upto_region 1 with fail
    generalize World.alloc (World.alloc w _) _ = wm at HM ⊢
    have c0 := HM.out.c0; have c1 := HM.out.c1; have c2 := HM.out.c2; have d0 := HM.out.d0; have d1 := HM.out.d1; have d2 := HM.out.d2; have d3 := HM.out.d3; have hz := HM.out.size
    go_wp2_with (first | (go_at_call 29; (with_reducible refine (refvalidate_any W' H' ao n cap Z hn _ HM.out.ints 0 HV.out).mono ?_); rintro e w1 ⟨rfl, hb⟩; have HN := hid (HM.out.stays hb); clear hb c0 c1 c2 d0 d1 d2 d3 hz HM; have HM := HN; clear HN; have c0 := HM.out.c0; have c1 := HM.out.c1; have c2 := HM.out.c2; have d0 := HM.out.d0; have d1 := HM.out.d1; have d2 := HM.out.d2; have d3 := HM.out.d3; have hz := HM.out.size) | (go_at_call 30; (with_reducible refine (rerr_to ao n cap Z HG.out k a b u e HS.out _ HM.out.ints).mono ?_); rintro e w1 ⟨rfl, hb⟩; have HN := hid (HM.out.stays hb); clear hb c0 c1 c2 d0 d1 d2 d3 hz HM; have HM := HN; clear HN; have c0 := HM.out.c0; have c1 := HM.out.c1; have c2 := HM.out.c2; have d0 := HM.out.d0; have d1 := HM.out.d1; have d2 := HM.out.d2; have d3 := HM.out.d3; have hz := HM.out.size))
    go_ret
    exact ⟨rfl, HM.out.below⟩

set_option maxRecDepth 20000 in
set_option maxHeartbeats 3200000 in
theorem rcost_to (W H : Int) (ao : Option Addr) (n cap : Nat) (Z : Nat → Int) (hn : n ≤ 9223372036854775807) (k a b u c e : Int) (h : CostIs W H n Z k a b u c e) (w : World) (hI : Ints w ao n Z) :
    Calls Try.prog 16 #[lv W H (.slice ao n cap), sv k a b u] w fun r w' => r = .returned (.tuple #[.int .i64 c, .int .i64 e]) ∧ Below w.heap.size w w' := by
  have HM := hid (mb_start (W := W) (H := H) (cap := cap) (k := k) (a := a) (b := b) (u := u) hI)
  clear hI
  rcases h with ⟨h0, rfl, hv⟩ | ⟨rfl, W', H', p, q, rfl, rfl, rfl, rfl, hg, hr, hc⟩
  · have HV := hid hv
    have g : (e != 0) = true := by simpa using h0
    have g2 : (e == 0) = false := by simpa using h0
    clear hv
    go_enter Try.func16, Try.ntmps16
    go_upto_region 1 with fail
    generalize World.alloc (World.alloc w _) _ = wm at HM ⊢
    have c0 := HM.out.c0; have c1 := HM.out.c1; have c2 := HM.out.c2; have d0 := HM.out.d0; have d1 := HM.out.d1; have d2 := HM.out.d2; have d3 := HM.out.d3; have hz := HM.out.size
    go_wp2_with (go_at_call 14; (with_reducible refine (rvalidate_to W H ao n cap Z hn k a b u e HV.out _ HM.out.ints).mono ?_); rintro e w1 ⟨rfl, hb⟩; have HN := hid (HM.out.stays hb); clear hb c0 c1 c2 d0 d1 d2 d3 hz HM; have HM := HN; clear HN; have c0 := HM.out.c0; have c1 := HM.out.c1; have c2 := HM.out.c2; have d0 := HM.out.d0; have d1 := HM.out.d1; have d2 := HM.out.d2; have d3 := HM.out.d3; have hz := HM.out.size)
    go_ret2
    exact ⟨rfl, HM.out.below⟩
  · have HV : Hid (FErr W' H' n Z k p q u 0) := hid (Or.inr ⟨W', H', rfl, rfl, hg, hr.err⟩)
    obtain ⟨hW1, hW2, hH1, hH2⟩ := hg.side
    have hms := mul_small hW2 hH2
    have hp2 : p ≤ 1024 := by have := hr.ha; omega
    have hq2 : q ≤ 1024 := by have := hr.hb; omega
    have HK : Hid (0 ≤ k ∧ k ≤ 1) := hid ⟨hr.kd.1, hr.kd.2.1⟩
    have HL := hid hr.line
    have HC := hid hc
    clear hg hr hc
    go_enter Try.func16, Try.ntmps16
    go_upto_region 1 with fail
    generalize World.alloc (World.alloc w _) _ = wm at HM ⊢
    have c0 := HM.out.c0; have c1 := HM.out.c1; have c2 := HM.out.c2; have d0 := HM.out.d0; have d1 := HM.out.d1; have d2 := HM.out.d2; have d3 := HM.out.d3; have hz := HM.out.size
    go_wp2_with (first | (go_at_call 14; (with_reducible refine (rvalidate_to W' H' ao n cap Z hn k p q u 0 HV.out _ HM.out.ints).mono ?_); rintro e w1 ⟨rfl, hb⟩; have HN := hid (HM.out.stays hb); clear hb c0 c1 c2 d0 d1 d2 d3 hz HM; have HM := HN; clear HN; have c0 := HM.out.c0; have c1 := HM.out.c1; have c2 := HM.out.c2; have d0 := HM.out.d0; have d1 := HM.out.d1; have d2 := HM.out.d2; have d3 := HM.out.d3; have hz := HM.out.size) | (go_at_call 33; (with_reducible refine (price_any hW1 hW2 ao n cap Z k u HK.out p q hp2 hq2 HL.out _ HM.out.ints).mono ?_); rw [← HC.out]; rintro e w1 ⟨rfl, hb⟩; have HN := hid (HM.out.stays hb); clear hb c0 c1 c2 d0 d1 d2 d3 hz HM; have HM := HN; clear HN; have c0 := HM.out.c0; have c1 := HM.out.c1; have c2 := HM.out.c2; have d0 := HM.out.d0; have d1 := HM.out.d1; have d2 := HM.out.d2; have d3 := HM.out.d3; have hz := HM.out.size))
    go_ret2
    exact ⟨rfl, HM.out.below⟩
end Go.Proofs.Ytpohhcmkkjcelaa
