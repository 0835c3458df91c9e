/-
  The walk of the law on the tiles whose heights may not change.
-/
import Derived.Test.YtpohhcmkkjcelaaSHeld
import Derived.Test.YtpohhcmkkjcelaaSKnown
namespace Go.Proofs.Ytpohhcmkkjcelaa
open Go.RowKit

theorem HeldIs.len {W H : Int} {n : Nat} {Z : Nat → Int} {m : Nat} {S : Nat → Sp} {L : List Int} {e : Int} (h : HeldIs W H n Z m S L e) : L.length ≤ 9223372036854775807 := by
  cases h with
  | list => simp
  | ok hb hv =>
    obtain ⟨W', H', rfl, rfl, hg, _⟩ := hv.right
    obtain ⟨_, hW2, _, hH2⟩ := hg.side
    have := mul_small hW2 hH2
    have h := hL_len hb (W' * H')
    rw [Int.toNat_natCast, Int.toNat_natCast]
    omega
set_option maxRecDepth 20000 in
set_option maxHeartbeats 6400000 in
theorem walk_holds (W H : Int) (ao : Option Addr) (n cap : Nat) (Z : Nat → Int) (hn : n ≤ 9223372036854775807) (lo : Option Addr) (m lcap : Nat) (hm : m ≤ 9223372036854775807) (S : Nat → Sp) (w : World) (hI : Ints w ao n Z) (hS : SpansAt w lo m S) :
    Calls Try.prog 8 #[lv W H (.slice ao n cap), .slice lo m lcap] w fun r w' => r = .returned (.bool true) ∧ Below w.heap.size w w' := by
  have HM := hid (lb_start (W := W) (H := H) (cap := cap) hI)
  have HS := hid hS
  clear hI hS
  by_cases hf : 3000 < n ∨ 300 < m
  · go_enter Try.func8, Try.ntmps8
    go_upto_region 1 with fail
    generalize World.alloc w _ = wm at HM ⊢
    have c0 := HM.out.c0; have c1 := HM.out.c1; have c2 := HM.out.c2; have hz := HM.out.size
    go_wp2_with (first | (go_at_call 12; (with_reducible refine (far_yes W H ao n cap lo m lcap hn hm hf _).mono ?_); rintro e w1 ⟨rfl, hb⟩; have HN := hid (HM.out.stays hb); clear hb c0 c1 c2 hz HM; have HM := HN; clear HN; have c0 := HM.out.c0; have c1 := HM.out.c1; have c2 := HM.out.c2; have hz := HM.out.size) | (go_at_call 13; (with_reducible refine (known_any _).mono ?_); rintro e w1 ⟨rfl, hb⟩; have HN := hid (HM.out.stays hb); clear hb c0 c1 c2 hz HM; have HM := HN; clear HN; have c0 := HM.out.c0; have c1 := HM.out.c1; have c2 := HM.out.c2; have hz := HM.out.size))
    go_ret
    exact ⟨rfl, HM.out.below⟩
  · have hf : n ≤ 3000 ∧ m ≤ 300 := by omega
    have hm2 : m ≤ 300 := hf.2
    obtain ⟨L, e, hc⟩ := HeldIs.ex W H n Z m S
    have HC := hid hc
    have hlen : L.length ≤ 9223372036854775807 := hc.len
    have ge : (e == e) = true := by simp
    clear hc
    go_enter Try.func8, Try.ntmps8
    go_upto_region 1 with fail
    generalize World.alloc w _ = wm at HM ⊢
    have c0 := HM.out.c0; have c1 := HM.out.c1; have c2 := HM.out.c2; have hz := HM.out.size
    go_wp2_with (first | (go_at_call 12; (with_reducible refine (far_no W H ao n cap lo m lcap hf _).mono ?_); rintro e w1 ⟨rfl, hb⟩; have HN := hid (HM.out.stays hb); clear hb c0 c1 c2 hz HM; have HM := HN; clear HN; have c0 := HM.out.c0; have c1 := HM.out.c1; have c2 := HM.out.c2; have hz := HM.out.size) | (go_at_call 13; (with_reducible refine (known_any _).mono ?_); rintro e w1 ⟨rfl, hb⟩; have HN := hid (HM.out.stays hb); clear hb c0 c1 c2 hz HM; have HM := HN; clear HN; have c0 := HM.out.c0; have c1 := HM.out.c1; have c2 := HM.out.c2; have hz := HM.out.size) | (go_at_call 25; refine (rheld_to W H ao n cap Z hn lo m lcap S hm2 L e HC.out _ HM.out.ints (HS.out.stays HM.out.below)).mono ?_; rintro r w1 ⟨v, rfl, hrow, hb⟩; obtain ⟨vo, vc, rfl⟩ := row_slice hrow; have HV1 := hid hrow; clear hrow; have HN := hid (HM.out.stays hb); clear hb c0 c1 c2 hz HM; have HM := HN; clear HN; have c0 := HM.out.c0; have c1 := HM.out.c1; have c2 := HM.out.c2; have hz := HM.out.size) | (go_at_call 26; refine (spheld_to W H ao n cap Z hn lo m lcap S hm2 L e HC.out _ HM.out.ints (HS.out.stays HM.out.below)).mono ?_; rintro r w1 ⟨v, rfl, hrow, hb⟩; obtain ⟨uo, uc, rfl⟩ := row_slice hrow; have HV2 := hid (And.intro hrow (row_stays HV1.out hb)); clear hrow; have HN := hid (HM.out.stays hb); clear hb c0 c1 c2 hz HM; have HM := HN; clear HN; have c0 := HM.out.c0; have c1 := HM.out.c1; have c2 := HM.out.c2; have hz := HM.out.size) | (go_at_call 27; refine (ints_same _ _ L.length _ _ (fun j => L.getD j 0) hlen _ (row_ints HV2.out.1) (row_ints HV2.out.2)).mono ?_; rintro r w1 ⟨rfl, q, rfl⟩; have hb := True.intro; have HN := hid (HM.out.stays (w' := World.drewN _ q) ⟨rfl, rfl, rfl, Nat.le_refl _, fun _ _ => rfl⟩); clear hb c0 c1 c2 hz HM; have HM := HN; clear HN; have c0 := HM.out.c0; have c1 := HM.out.c1; have c2 := HM.out.c2; have hz := HM.out.size))
    go_ret
    exact ⟨rfl, HM.out.below⟩
end Go.Proofs.Ytpohhcmkkjcelaa
