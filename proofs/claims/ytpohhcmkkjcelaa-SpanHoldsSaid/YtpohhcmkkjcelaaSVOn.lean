/-
  The walks of validateOn, Validate and Cost of the program.
-/
import Derived.Test.YtpohhcmkkjcelaaSLies
namespace Go.Proofs.Ytpohhcmkkjcelaa
open Go.RowKit

set_option maxRecDepth 20000 in
set_option maxHeartbeats 6400000 in
theorem validateOn_to {W H : Nat} (ao : Option Addr) (n cap : Nat) (Z : Nat → Int) (hg : Good W H n Z) (k a b u e : Int) (h : SErr W H Z k a b u e) (w : World) (hI : Ints w ao n Z) :
    Calls Try.prog 32 #[lv W H (.slice ao n cap), sv k a b u] w fun r w' => r = .returned (.int .i64 e) ∧ Below w.heap.size w w' := by
  obtain ⟨hW1, hW2, hH1, hH2⟩ := hg.side
  have hms := mul_small hW2 hH2
  have HG := hid hg
  have HM := hid (mb_start (W := W) (H := H) (cap := cap) (k := k) (a := a) (b := b) (u := u) hI)
  clear hI hg
  cases h with
  | arg h1 =>
    have h2 : k < 0 ∨ 2 ≤ k ∨ ((0 ≤ k ∧ k < 2) ∧ u < 0) ∨ ((0 ≤ k ∧ k < 2) ∧ 2 ≤ u) := by unfold Kd at h1; omega
    clear h1
    rcases h2 with h2 | h2 | ⟨⟨h3, h4⟩, h2⟩ | ⟨⟨h3, h4⟩, h2⟩
    all_goals
      go_enter Try.func32, Try.ntmps32
      go_upto_region 1 with fail
      generalize World.alloc (World.alloc w _) _ = wm at HM ⊢
      have c0 := HM.out.c0; have c1 := HM.out.c1; have c2 := HM.out.c2; have d0 := HM.out.d0; have d1 := HM.out.d1; have d2 := HM.out.d2; have d3 := HM.out.d3; have hz := HM.out.size
      go_wp2_with fail
      go_ret
      exact ⟨rfl, HM.out.below⟩
  | none h1 h2 =>
    obtain ⟨k1, k2, u1, u2⟩ := h1
    by_cases h3 : Tl W H a
    · have h4 : ¬ Tl W H b := fun h => h2 ⟨h3, h⟩
      have HA := hid h3
      have HB := hid h4
      clear h2 h3 h4
      go_enter Try.func32, Try.ntmps32
      go_upto_region 1 with fail
      generalize World.alloc (World.alloc w _) _ = wm at HM ⊢
      have c0 := HM.out.c0; have c1 := HM.out.c1; have c2 := HM.out.c2; have d0 := HM.out.d0; have d1 := HM.out.d1; have d2 := HM.out.d2; have d3 := HM.out.d3; have hz := HM.out.size
      go_wp2_with (first | (go_at_call 44; (with_reducible refine (spTile_any W H hW2 hH2 _ a true ⟨fun _ => HA.out, fun _ => rfl⟩ _).mono ?_); rintro e w1 ⟨rfl, hb⟩; have HN := hid (HM.out.stays hb); clear hb c0 c1 c2 d0 d1 d2 d3 hz HM; have HM := HN; clear HN; have c0 := HM.out.c0; have c1 := HM.out.c1; have c2 := HM.out.c2; have d0 := HM.out.d0; have d1 := HM.out.d1; have d2 := HM.out.d2; have d3 := HM.out.d3; have hz := HM.out.size) | (go_at_call 44; (with_reducible refine (spTile_any W H hW2 hH2 _ b false ⟨fun h => (by cases h), fun h => absurd h HB.out⟩ _).mono ?_); rintro e w1 ⟨rfl, hb⟩; have HN := hid (HM.out.stays hb); clear hb c0 c1 c2 d0 d1 d2 d3 hz HM; have HM := HN; clear HN; have c0 := HM.out.c0; have c1 := HM.out.c1; have c2 := HM.out.c2; have d0 := HM.out.d0; have d1 := HM.out.d1; have d2 := HM.out.d2; have d3 := HM.out.d3; have hz := HM.out.size))
      go_ret
      exact ⟨rfl, HM.out.below⟩
    · have HA := hid h3
      clear h2 h3
      go_enter Try.func32, Try.ntmps32
      go_upto_region 1 with fail
      generalize World.alloc (World.alloc w _) _ = wm at HM ⊢
      have c0 := HM.out.c0; have c1 := HM.out.c1; have c2 := HM.out.c2; have d0 := HM.out.d0; have d1 := HM.out.d1; have d2 := HM.out.d2; have d3 := HM.out.d3; have hz := HM.out.size
      go_wp2_with (first | (go_at_call 44; (with_reducible refine (spTile_any W H hW2 hH2 _ a false ⟨fun h => (by cases h), fun h => absurd h HA.out⟩ _).mono ?_); rintro e w1 ⟨rfl, hb⟩; have HN := hid (HM.out.stays hb); clear hb c0 c1 c2 d0 d1 d2 d3 hz HM; have HM := HN; clear HN; have c0 := HM.out.c0; have c1 := HM.out.c1; have c2 := HM.out.c2; have d0 := HM.out.d0; have d1 := HM.out.d1; have d2 := HM.out.d2; have d3 := HM.out.d3; have hz := HM.out.size))
      go_ret
      exact ⟨rfl, HM.out.below⟩
  | fit p q h1 e1 e2 hp hq h2 =>
    obtain ⟨k1, k2, u1, u2⟩ := h1
    have HA : Hid (Tl W H a) := hid ⟨by omega, by omega⟩
    have HB : Hid (Tl W H b) := hid ⟨by omega, by omega⟩
    subst e1 e2
    have hp2 : p ≤ 1024 := by omega
    have hq2 : q ≤ 1024 := by omega
    have HP := hid hp
    have HQ := hid hq
    clear hp hq
    by_cases h3 : p < q
    · have h4 : ¬ InRow W p q := fun h => h2 ⟨h3, .inl h⟩
      have h5 : ¬ InCol W p q := fun h => h2 ⟨h3, .inr h⟩
      have H4 := hid h4
      have H5 := hid h5
      clear h2 h4 h5
      go_enter Try.func32, Try.ntmps32
      go_upto_region 1 with fail
      generalize World.alloc (World.alloc w _) _ = wm at HM ⊢
      have c0 := HM.out.c0; have c1 := HM.out.c1; have c2 := HM.out.c2; have d0 := HM.out.d0; have d1 := HM.out.d1; have d2 := HM.out.d2; have d3 := HM.out.d3; have hz := HM.out.size
      go_wp2_with (first | (go_at_call 44; (with_reducible refine (spTile_any W H hW2 hH2 _ p true ⟨fun _ => HA.out, fun _ => rfl⟩ _).mono ?_); rintro e w1 ⟨rfl, hb⟩; have HN := hid (HM.out.stays hb); clear hb c0 c1 c2 d0 d1 d2 d3 hz HM; have HM := HN; clear HN; have c0 := HM.out.c0; have c1 := HM.out.c1; have c2 := HM.out.c2; have d0 := HM.out.d0; have d1 := HM.out.d1; have d2 := HM.out.d2; have d3 := HM.out.d3; have hz := HM.out.size) | (go_at_call 44; (with_reducible refine (spTile_any W H hW2 hH2 _ q true ⟨fun _ => HB.out, fun _ => rfl⟩ _).mono ?_); rintro e w1 ⟨rfl, hb⟩; have HN := hid (HM.out.stays hb); clear hb c0 c1 c2 d0 d1 d2 d3 hz HM; have HM := HN; clear HN; have c0 := HM.out.c0; have c1 := HM.out.c1; have c2 := HM.out.c2; have d0 := HM.out.d0; have d1 := HM.out.d1; have d2 := HM.out.d2; have d3 := HM.out.d3; have hz := HM.out.size) | (go_at_call 66; (with_reducible refine (inRow_any W H hW1 hW2 _ k u p q hp2 hq2 false ⟨fun h => (by cases h), fun h => absurd h H4.out⟩ _).mono ?_); rintro e w1 ⟨rfl, hb⟩; have HN := hid (HM.out.stays hb); clear hb c0 c1 c2 d0 d1 d2 d3 hz HM; have HM := HN; clear HN; have c0 := HM.out.c0; have c1 := HM.out.c1; have c2 := HM.out.c2; have d0 := HM.out.d0; have d1 := HM.out.d1; have d2 := HM.out.d2; have d3 := HM.out.d3; have hz := HM.out.size) | (go_at_call 67; (with_reducible refine (inCol_any W H hW1 hW2 _ k u p q hp2 hq2 false ⟨fun h => (by cases h), fun h => absurd h H5.out⟩ _).mono ?_); rintro e w1 ⟨rfl, hb⟩; have HN := hid (HM.out.stays hb); clear hb c0 c1 c2 d0 d1 d2 d3 hz HM; have HM := HN; clear HN; have c0 := HM.out.c0; have c1 := HM.out.c1; have c2 := HM.out.c2; have d0 := HM.out.d0; have d1 := HM.out.d1; have d2 := HM.out.d2; have d3 := HM.out.d3; have hz := HM.out.size))
      go_ret
      exact ⟨rfl, HM.out.below⟩
    · clear h2
      go_enter Try.func32, Try.ntmps32
      go_upto_region 1 with fail
      generalize World.alloc (World.alloc w _) _ = wm at HM ⊢
      have c0 := HM.out.c0; have c1 := HM.out.c1; have c2 := HM.out.c2; have d0 := HM.out.d0; have d1 := HM.out.d1; have d2 := HM.out.d2; have d3 := HM.out.d3; have hz := HM.out.size
      go_wp2_with (first | (go_at_call 44; (with_reducible refine (spTile_any W H hW2 hH2 _ p true ⟨fun _ => HA.out, fun _ => rfl⟩ _).mono ?_); rintro e w1 ⟨rfl, hb⟩; have HN := hid (HM.out.stays hb); clear hb c0 c1 c2 d0 d1 d2 d3 hz HM; have HM := HN; clear HN; have c0 := HM.out.c0; have c1 := HM.out.c1; have c2 := HM.out.c2; have d0 := HM.out.d0; have d1 := HM.out.d1; have d2 := HM.out.d2; have d3 := HM.out.d3; have hz := HM.out.size) | (go_at_call 44; (with_reducible refine (spTile_any W H hW2 hH2 _ q true ⟨fun _ => HB.out, fun _ => rfl⟩ _).mono ?_); rintro e w1 ⟨rfl, hb⟩; have HN := hid (HM.out.stays hb); clear hb c0 c1 c2 d0 d1 d2 d3 hz HM; have HM := HN; clear HN; have c0 := HM.out.c0; have c1 := HM.out.c1; have c2 := HM.out.c2; have d0 := HM.out.d0; have d1 := HM.out.d1; have d2 := HM.out.d2; have d3 := HM.out.d3; have hz := HM.out.size))
      go_ret
      exact ⟨rfl, HM.out.below⟩
  | limit p q h1 e1 e2 hp hq hl hn =>
    obtain ⟨k1, k2, u1, u2⟩ := h1
    have HA : Hid (Tl W H a) := hid ⟨by omega, by omega⟩
    have HB : Hid (Tl W H b) := hid ⟨by omega, by omega⟩
    subst e1 e2
    have hp2 : p ≤ 1024 := by omega
    have hq2 : q ≤ 1024 := by omega
    have HP := hid hp
    have HQ := hid hq
    have HL := hid hl
    have hlt := hl.1
    clear hp hq
    obtain ⟨c, hc⟩ : ∃ c, c = cnt (stp W p q) p q := ⟨_, rfl⟩
    rw [← hc] at hn
    have HCN := hid hc
    clear hc
    have hn2 : c < 1 ∨ (1 ≤ c ∧ 10 < c) := by omega
    clear hn
    by_cases hr : InRow W p q
    · have HR := hid hr
      clear hr
      rcases hn2 with hn2 | ⟨hn2, hn3⟩
      all_goals go_enter Try.func32, Try.ntmps32
      all_goals go_upto_region 1 with fail
      all_goals generalize World.alloc (World.alloc w _) _ = wm at HM ⊢
      all_goals (have c0 := HM.out.c0; have c1 := HM.out.c1; have c2 := HM.out.c2; have d0 := HM.out.d0; have d1 := HM.out.d1; have d2 := HM.out.d2; have d3 := HM.out.d3; have hz := HM.out.size)
      all_goals go_wp2_with (first | (go_at_call 44; (with_reducible refine (spTile_any W H hW2 hH2 _ p true ⟨fun _ => HA.out, fun _ => rfl⟩ _).mono ?_); rintro e w1 ⟨rfl, hb⟩; have HN := hid (HM.out.stays hb); clear hb c0 c1 c2 d0 d1 d2 d3 hz HM; have HM := HN; clear HN; have c0 := HM.out.c0; have c1 := HM.out.c1; have c2 := HM.out.c2; have d0 := HM.out.d0; have d1 := HM.out.d1; have d2 := HM.out.d2; have d3 := HM.out.d3; have hz := HM.out.size) | (go_at_call 44; (with_reducible refine (spTile_any W H hW2 hH2 _ q true ⟨fun _ => HB.out, fun _ => rfl⟩ _).mono ?_); rintro e w1 ⟨rfl, hb⟩; have HN := hid (HM.out.stays hb); clear hb c0 c1 c2 d0 d1 d2 d3 hz HM; have HM := HN; clear HN; have c0 := HM.out.c0; have c1 := HM.out.c1; have c2 := HM.out.c2; have d0 := HM.out.d0; have d1 := HM.out.d1; have d2 := HM.out.d2; have d3 := HM.out.d3; have hz := HM.out.size) | (go_at_call 66; (with_reducible refine (inRow_any W H hW1 hW2 _ k u p q hp2 hq2 true ⟨fun _ => HR.out, fun _ => rfl⟩ _).mono ?_); rintro e w1 ⟨rfl, hb⟩; have HN := hid (HM.out.stays hb); clear hb c0 c1 c2 d0 d1 d2 d3 hz HM; have HM := HN; clear HN; have c0 := HM.out.c0; have c1 := HM.out.c1; have c2 := HM.out.c2; have d0 := HM.out.d0; have d1 := HM.out.d1; have d2 := HM.out.d2; have d3 := HM.out.d3; have hz := HM.out.size) | (go_at_call 48; (with_reducible refine (length_any W H hW1 hW2 ao n cap Z k u p q hp2 hq2 HL.out _ HM.out.ints).mono ?_); rw [← HCN.out]; rintro e w1 ⟨rfl, hb⟩; have HN := hid (HM.out.stays hb); clear hb c0 c1 c2 d0 d1 d2 d3 hz HM; have HM := HN; clear HN; have c0 := HM.out.c0; have c1 := HM.out.c1; have c2 := HM.out.c2; have d0 := HM.out.d0; have d1 := HM.out.d1; have d2 := HM.out.d2; have d3 := HM.out.d3; have hz := HM.out.size))
      all_goals go_ret
      all_goals exact ⟨rfl, HM.out.below⟩
    · have HC := hid (hl.2.resolve_left hr)
      have HR := hid hr
      clear hr
      rcases hn2 with hn2 | ⟨hn2, hn3⟩
      all_goals go_enter Try.func32, Try.ntmps32
      all_goals go_upto_region 1 with fail
      all_goals generalize World.alloc (World.alloc w _) _ = wm at HM ⊢
      all_goals (have c0 := HM.out.c0; have c1 := HM.out.c1; have c2 := HM.out.c2; have d0 := HM.out.d0; have d1 := HM.out.d1; have d2 := HM.out.d2; have d3 := HM.out.d3; have hz := HM.out.size)
      all_goals go_wp2_with (first | (go_at_call 44; (with_reducible refine (spTile_any W H hW2 hH2 _ p true ⟨fun _ => HA.out, fun _ => rfl⟩ _).mono ?_); rintro e w1 ⟨rfl, hb⟩; have HN := hid (HM.out.stays hb); clear hb c0 c1 c2 d0 d1 d2 d3 hz HM; have HM := HN; clear HN; have c0 := HM.out.c0; have c1 := HM.out.c1; have c2 := HM.out.c2; have d0 := HM.out.d0; have d1 := HM.out.d1; have d2 := HM.out.d2; have d3 := HM.out.d3; have hz := HM.out.size) | (go_at_call 44; (with_reducible refine (spTile_any W H hW2 hH2 _ q true ⟨fun _ => HB.out, fun _ => rfl⟩ _).mono ?_); rintro e w1 ⟨rfl, hb⟩; have HN := hid (HM.out.stays hb); clear hb c0 c1 c2 d0 d1 d2 d3 hz HM; have HM := HN; clear HN; have c0 := HM.out.c0; have c1 := HM.out.c1; have c2 := HM.out.c2; have d0 := HM.out.d0; have d1 := HM.out.d1; have d2 := HM.out.d2; have d3 := HM.out.d3; have hz := HM.out.size) | (go_at_call 66; (with_reducible refine (inRow_any W H hW1 hW2 _ k u p q hp2 hq2 false ⟨fun h => (by cases h), fun h => absurd h HR.out⟩ _).mono ?_); rintro e w1 ⟨rfl, hb⟩; have HN := hid (HM.out.stays hb); clear hb c0 c1 c2 d0 d1 d2 d3 hz HM; have HM := HN; clear HN; have c0 := HM.out.c0; have c1 := HM.out.c1; have c2 := HM.out.c2; have d0 := HM.out.d0; have d1 := HM.out.d1; have d2 := HM.out.d2; have d3 := HM.out.d3; have hz := HM.out.size) | (go_at_call 67; (with_reducible refine (inCol_any W H hW1 hW2 _ k u p q hp2 hq2 true ⟨fun _ => HC.out, fun _ => rfl⟩ _).mono ?_); rintro e w1 ⟨rfl, hb⟩; have HN := hid (HM.out.stays hb); clear hb c0 c1 c2 d0 d1 d2 d3 hz HM; have HM := HN; clear HN; have c0 := HM.out.c0; have c1 := HM.out.c1; have c2 := HM.out.c2; have d0 := HM.out.d0; have d1 := HM.out.d1; have d2 := HM.out.d2; have d3 := HM.out.d3; have hz := HM.out.size) | (go_at_call 48; (with_reducible refine (length_any W H hW1 hW2 ao n cap Z k u p q hp2 hq2 HL.out _ HM.out.ints).mono ?_); rw [← HCN.out]; rintro e w1 ⟨rfl, hb⟩; have HN := hid (HM.out.stays hb); clear hb c0 c1 c2 d0 d1 d2 d3 hz HM; have HM := HN; clear HN; have c0 := HM.out.c0; have c1 := HM.out.c1; have c2 := HM.out.c2; have d0 := HM.out.d0; have d1 := HM.out.d1; have d2 := HM.out.d2; have d3 := HM.out.d3; have hz := HM.out.size))
      all_goals go_ret
      all_goals exact ⟨rfl, HM.out.below⟩
  | slope p q h1 e1 e2 hp hq hl hn hs =>
    obtain ⟨k1, k2, u1, u2⟩ := h1
    have HA : Hid (Tl W H a) := hid ⟨by omega, by omega⟩
    have HB : Hid (Tl W H b) := hid ⟨by omega, by omega⟩
    subst e1 e2
    have hp2 : p ≤ 1024 := by omega
    have hq2 : q ≤ 1024 := by omega
    have HP := hid hp
    have HQ := hid hq
    have HL := hid hl
    have hlt := hl.1
    clear hp hq
    obtain ⟨c, hc⟩ : ∃ c, c = cnt (stp W p q) p q := ⟨_, rfl⟩
    rw [← hc] at hn
    have HCN := hid hc
    clear hc
    obtain ⟨hn1, hn2⟩ := hn
    have HS := hid hs
    clear hs
    by_cases hr : InRow W p q
    · have HR := hid hr
      clear hr
      go_enter Try.func32, Try.ntmps32
      go_upto_region 1 with fail
      generalize World.alloc (World.alloc w _) _ = wm at HM ⊢
      have c0 := HM.out.c0; have c1 := HM.out.c1; have c2 := HM.out.c2; have d0 := HM.out.d0; have d1 := HM.out.d1; have d2 := HM.out.d2; have d3 := HM.out.d3; have hz := HM.out.size
      go_wp2_with (first | (go_at_call 44; (with_reducible refine (spTile_any W H hW2 hH2 _ p true ⟨fun _ => HA.out, fun _ => rfl⟩ _).mono ?_); rintro e w1 ⟨rfl, hb⟩; have HN := hid (HM.out.stays hb); clear hb c0 c1 c2 d0 d1 d2 d3 hz HM; have HM := HN; clear HN; have c0 := HM.out.c0; have c1 := HM.out.c1; have c2 := HM.out.c2; have d0 := HM.out.d0; have d1 := HM.out.d1; have d2 := HM.out.d2; have d3 := HM.out.d3; have hz := HM.out.size) | (go_at_call 44; (with_reducible refine (spTile_any W H hW2 hH2 _ q true ⟨fun _ => HB.out, fun _ => rfl⟩ _).mono ?_); rintro e w1 ⟨rfl, hb⟩; have HN := hid (HM.out.stays hb); clear hb c0 c1 c2 d0 d1 d2 d3 hz HM; have HM := HN; clear HN; have c0 := HM.out.c0; have c1 := HM.out.c1; have c2 := HM.out.c2; have d0 := HM.out.d0; have d1 := HM.out.d1; have d2 := HM.out.d2; have d3 := HM.out.d3; have hz := HM.out.size) | (go_at_call 66; (with_reducible refine (inRow_any W H hW1 hW2 _ k u p q hp2 hq2 true ⟨fun _ => HR.out, fun _ => rfl⟩ _).mono ?_); rintro e w1 ⟨rfl, hb⟩; have HN := hid (HM.out.stays hb); clear hb c0 c1 c2 d0 d1 d2 d3 hz HM; have HM := HN; clear HN; have c0 := HM.out.c0; have c1 := HM.out.c1; have c2 := HM.out.c2; have d0 := HM.out.d0; have d1 := HM.out.d1; have d2 := HM.out.d2; have d3 := HM.out.d3; have hz := HM.out.size) | (go_at_call 48; (with_reducible refine (length_any W H hW1 hW2 ao n cap Z k u p q hp2 hq2 HL.out _ HM.out.ints).mono ?_); rw [← HCN.out]; rintro e w1 ⟨rfl, hb⟩; have HN := hid (HM.out.stays hb); clear hb c0 c1 c2 d0 d1 d2 d3 hz HM; have HM := HN; clear HN; have c0 := HM.out.c0; have c1 := HM.out.c1; have c2 := HM.out.c2; have d0 := HM.out.d0; have d1 := HM.out.d1; have d2 := HM.out.d2; have d3 := HM.out.d3; have hz := HM.out.size) | (go_at_call 68; (with_reducible refine (lies_any ao n cap Z HG.out k u ⟨k1, k2⟩ p q HP.out HQ.out HL.out false ⟨fun h => (by cases h), fun h => absurd h HS.out⟩ _ HM.out.ints).mono ?_); rintro e w1 ⟨rfl, hb⟩; have HN := hid (HM.out.stays hb); clear hb c0 c1 c2 d0 d1 d2 d3 hz HM; have HM := HN; clear HN; have c0 := HM.out.c0; have c1 := HM.out.c1; have c2 := HM.out.c2; have d0 := HM.out.d0; have d1 := HM.out.d1; have d2 := HM.out.d2; have d3 := HM.out.d3; have hz := HM.out.size))
      all_goals go_ret
      all_goals exact ⟨rfl, HM.out.below⟩
    · have HC := hid (hl.2.resolve_left hr)
      have HR := hid hr
      clear hr
      go_enter Try.func32, Try.ntmps32
      go_upto_region 1 with fail
      generalize World.alloc (World.alloc w _) _ = wm at HM ⊢
      have c0 := HM.out.c0; have c1 := HM.out.c1; have c2 := HM.out.c2; have d0 := HM.out.d0; have d1 := HM.out.d1; have d2 := HM.out.d2; have d3 := HM.out.d3; have hz := HM.out.size
      go_wp2_with (first | (go_at_call 44; (with_reducible refine (spTile_any W H hW2 hH2 _ p true ⟨fun _ => HA.out, fun _ => rfl⟩ _).mono ?_); rintro e w1 ⟨rfl, hb⟩; have HN := hid (HM.out.stays hb); clear hb c0 c1 c2 d0 d1 d2 d3 hz HM; have HM := HN; clear HN; have c0 := HM.out.c0; have c1 := HM.out.c1; have c2 := HM.out.c2; have d0 := HM.out.d0; have d1 := HM.out.d1; have d2 := HM.out.d2; have d3 := HM.out.d3; have hz := HM.out.size) | (go_at_call 44; (with_reducible refine (spTile_any W H hW2 hH2 _ q true ⟨fun _ => HB.out, fun _ => rfl⟩ _).mono ?_); rintro e w1 ⟨rfl, hb⟩; have HN := hid (HM.out.stays hb); clear hb c0 c1 c2 d0 d1 d2 d3 hz HM; have HM := HN; clear HN; have c0 := HM.out.c0; have c1 := HM.out.c1; have c2 := HM.out.c2; have d0 := HM.out.d0; have d1 := HM.out.d1; have d2 := HM.out.d2; have d3 := HM.out.d3; have hz := HM.out.size) | (go_at_call 66; (with_reducible refine (inRow_any W H hW1 hW2 _ k u p q hp2 hq2 false ⟨fun h => (by cases h), fun h => absurd h HR.out⟩ _).mono ?_); rintro e w1 ⟨rfl, hb⟩; have HN := hid (HM.out.stays hb); clear hb c0 c1 c2 d0 d1 d2 d3 hz HM; have HM := HN; clear HN; have c0 := HM.out.c0; have c1 := HM.out.c1; have c2 := HM.out.c2; have d0 := HM.out.d0; have d1 := HM.out.d1; have d2 := HM.out.d2; have d3 := HM.out.d3; have hz := HM.out.size) | (go_at_call 67; (with_reducible refine (inCol_any W H hW1 hW2 _ k u p q hp2 hq2 true ⟨fun _ => HC.out, fun _ => rfl⟩ _).mono ?_); rintro e w1 ⟨rfl, hb⟩; have HN := hid (HM.out.stays hb); clear hb c0 c1 c2 d0 d1 d2 d3 hz HM; have HM := HN; clear HN; have c0 := HM.out.c0; have c1 := HM.out.c1; have c2 := HM.out.c2; have d0 := HM.out.d0; have d1 := HM.out.d1; have d2 := HM.out.d2; have d3 := HM.out.d3; have hz := HM.out.size) | (go_at_call 48; (with_reducible refine (length_any W H hW1 hW2 ao n cap Z k u p q hp2 hq2 HL.out _ HM.out.ints).mono ?_); rw [← HCN.out]; rintro e w1 ⟨rfl, hb⟩; have HN := hid (HM.out.stays hb); clear hb c0 c1 c2 d0 d1 d2 d3 hz HM; have HM := HN; clear HN; have c0 := HM.out.c0; have c1 := HM.out.c1; have c2 := HM.out.c2; have d0 := HM.out.d0; have d1 := HM.out.d1; have d2 := HM.out.d2; have d3 := HM.out.d3; have hz := HM.out.size) | (go_at_call 68; (with_reducible refine (lies_any ao n cap Z HG.out k u ⟨k1, k2⟩ p q HP.out HQ.out HL.out false ⟨fun h => (by cases h), fun h => absurd h HS.out⟩ _ HM.out.ints).mono ?_); rintro e w1 ⟨rfl, hb⟩; have HN := hid (HM.out.stays hb); clear hb c0 c1 c2 d0 d1 d2 d3 hz HM; have HM := HN; clear HN; have c0 := HM.out.c0; have c1 := HM.out.c1; have c2 := HM.out.c2; have d0 := HM.out.d0; have d1 := HM.out.d1; have d2 := HM.out.d2; have d3 := HM.out.d3; have hz := HM.out.size))
      all_goals go_ret
      all_goals exact ⟨rfl, HM.out.below⟩
  | ok p q h1 e1 e2 hp hq hl hn hs =>
    obtain ⟨k1, k2, u1, u2⟩ := h1
    have HA : Hid (Tl W H a) := hid ⟨by omega, by omega⟩
    have HB : Hid (Tl W H b) := hid ⟨by omega, by omega⟩
    subst e1 e2
    have hp2 : p ≤ 1024 := by omega
    have hq2 : q ≤ 1024 := by omega
    have HP := hid hp
    have HQ := hid hq
    have HL := hid hl
    have hlt := hl.1
    clear hp hq
    obtain ⟨c, hc⟩ : ∃ c, c = cnt (stp W p q) p q := ⟨_, rfl⟩
    rw [← hc] at hn
    have HCN := hid hc
    clear hc
    obtain ⟨hn1, hn2⟩ := hn
    have HS := hid hs
    clear hs
    by_cases hr : InRow W p q
    · have HR := hid hr
      clear hr
      go_enter Try.func32, Try.ntmps32
      go_upto_region 1 with fail
      generalize World.alloc (World.alloc w _) _ = wm at HM ⊢
      have c0 := HM.out.c0; have c1 := HM.out.c1; have c2 := HM.out.c2; have d0 := HM.out.d0; have d1 := HM.out.d1; have d2 := HM.out.d2; have d3 := HM.out.d3; have hz := HM.out.size
      go_wp2_with (first | (go_at_call 44; (with_reducible refine (spTile_any W H hW2 hH2 _ p true ⟨fun _ => HA.out, fun _ => rfl⟩ _).mono ?_); rintro e w1 ⟨rfl, hb⟩; have HN := hid (HM.out.stays hb); clear hb c0 c1 c2 d0 d1 d2 d3 hz HM; have HM := HN; clear HN; have c0 := HM.out.c0; have c1 := HM.out.c1; have c2 := HM.out.c2; have d0 := HM.out.d0; have d1 := HM.out.d1; have d2 := HM.out.d2; have d3 := HM.out.d3; have hz := HM.out.size) | (go_at_call 44; (with_reducible refine (spTile_any W H hW2 hH2 _ q true ⟨fun _ => HB.out, fun _ => rfl⟩ _).mono ?_); rintro e w1 ⟨rfl, hb⟩; have HN := hid (HM.out.stays hb); clear hb c0 c1 c2 d0 d1 d2 d3 hz HM; have HM := HN; clear HN; have c0 := HM.out.c0; have c1 := HM.out.c1; have c2 := HM.out.c2; have d0 := HM.out.d0; have d1 := HM.out.d1; have d2 := HM.out.d2; have d3 := HM.out.d3; have hz := HM.out.size) | (go_at_call 66; (with_reducible refine (inRow_any W H hW1 hW2 _ k u p q hp2 hq2 true ⟨fun _ => HR.out, fun _ => rfl⟩ _).mono ?_); rintro e w1 ⟨rfl, hb⟩; have HN := hid (HM.out.stays hb); clear hb c0 c1 c2 d0 d1 d2 d3 hz HM; have HM := HN; clear HN; have c0 := HM.out.c0; have c1 := HM.out.c1; have c2 := HM.out.c2; have d0 := HM.out.d0; have d1 := HM.out.d1; have d2 := HM.out.d2; have d3 := HM.out.d3; have hz := HM.out.size) | (go_at_call 48; (with_reducible refine (length_any W H hW1 hW2 ao n cap Z k u p q hp2 hq2 HL.out _ HM.out.ints).mono ?_); rw [← HCN.out]; rintro e w1 ⟨rfl, hb⟩; have HN := hid (HM.out.stays hb); clear hb c0 c1 c2 d0 d1 d2 d3 hz HM; have HM := HN; clear HN; have c0 := HM.out.c0; have c1 := HM.out.c1; have c2 := HM.out.c2; have d0 := HM.out.d0; have d1 := HM.out.d1; have d2 := HM.out.d2; have d3 := HM.out.d3; have hz := HM.out.size) | (go_at_call 68; (with_reducible refine (lies_any ao n cap Z HG.out k u ⟨k1, k2⟩ p q HP.out HQ.out HL.out true ⟨fun _ => HS.out, fun _ => rfl⟩ _ HM.out.ints).mono ?_); rintro e w1 ⟨rfl, hb⟩; have HN := hid (HM.out.stays hb); clear hb c0 c1 c2 d0 d1 d2 d3 hz HM; have HM := HN; clear HN; have c0 := HM.out.c0; have c1 := HM.out.c1; have c2 := HM.out.c2; have d0 := HM.out.d0; have d1 := HM.out.d1; have d2 := HM.out.d2; have d3 := HM.out.d3; have hz := HM.out.size))
      all_goals go_ret
      all_goals exact ⟨rfl, HM.out.below⟩
    · have HC := hid (hl.2.resolve_left hr)
      have HR := hid hr
      clear hr
      go_enter Try.func32, Try.ntmps32
      go_upto_region 1 with fail
      generalize World.alloc (World.alloc w _) _ = wm at HM ⊢
      have c0 := HM.out.c0; have c1 := HM.out.c1; have c2 := HM.out.c2; have d0 := HM.out.d0; have d1 := HM.out.d1; have d2 := HM.out.d2; have d3 := HM.out.d3; have hz := HM.out.size
      go_wp2_with (first | (go_at_call 44; (with_reducible refine (spTile_any W H hW2 hH2 _ p true ⟨fun _ => HA.out, fun _ => rfl⟩ _).mono ?_); rintro e w1 ⟨rfl, hb⟩; have HN := hid (HM.out.stays hb); clear hb c0 c1 c2 d0 d1 d2 d3 hz HM; have HM := HN; clear HN; have c0 := HM.out.c0; have c1 := HM.out.c1; have c2 := HM.out.c2; have d0 := HM.out.d0; have d1 := HM.out.d1; have d2 := HM.out.d2; have d3 := HM.out.d3; have hz := HM.out.size) | (go_at_call 44; (with_reducible refine (spTile_any W H hW2 hH2 _ q true ⟨fun _ => HB.out, fun _ => rfl⟩ _).mono ?_); rintro e w1 ⟨rfl, hb⟩; have HN := hid (HM.out.stays hb); clear hb c0 c1 c2 d0 d1 d2 d3 hz HM; have HM := HN; clear HN; have c0 := HM.out.c0; have c1 := HM.out.c1; have c2 := HM.out.c2; have d0 := HM.out.d0; have d1 := HM.out.d1; have d2 := HM.out.d2; have d3 := HM.out.d3; have hz := HM.out.size) | (go_at_call 66; (with_reducible refine (inRow_any W H hW1 hW2 _ k u p q hp2 hq2 false ⟨fun h => (by cases h), fun h => absurd h HR.out⟩ _).mono ?_); rintro e w1 ⟨rfl, hb⟩; have HN := hid (HM.out.stays hb); clear hb c0 c1 c2 d0 d1 d2 d3 hz HM; have HM := HN; clear HN; have c0 := HM.out.c0; have c1 := HM.out.c1; have c2 := HM.out.c2; have d0 := HM.out.d0; have d1 := HM.out.d1; have d2 := HM.out.d2; have d3 := HM.out.d3; have hz := HM.out.size) | (go_at_call 67; (with_reducible refine (inCol_any W H hW1 hW2 _ k u p q hp2 hq2 true ⟨fun _ => HC.out, fun _ => rfl⟩ _).mono ?_); rintro e w1 ⟨rfl, hb⟩; have HN := hid (HM.out.stays hb); clear hb c0 c1 c2 d0 d1 d2 d3 hz HM; have HM := HN; clear HN; have c0 := HM.out.c0; have c1 := HM.out.c1; have c2 := HM.out.c2; have d0 := HM.out.d0; have d1 := HM.out.d1; have d2 := HM.out.d2; have d3 := HM.out.d3; have hz := HM.out.size) | (go_at_call 48; (with_reducible refine (length_any W H hW1 hW2 ao n cap Z k u p q hp2 hq2 HL.out _ HM.out.ints).mono ?_); rw [← HCN.out]; rintro e w1 ⟨rfl, hb⟩; have HN := hid (HM.out.stays hb); clear hb c0 c1 c2 d0 d1 d2 d3 hz HM; have HM := HN; clear HN; have c0 := HM.out.c0; have c1 := HM.out.c1; have c2 := HM.out.c2; have d0 := HM.out.d0; have d1 := HM.out.d1; have d2 := HM.out.d2; have d3 := HM.out.d3; have hz := HM.out.size) | (go_at_call 68; (with_reducible refine (lies_any ao n cap Z HG.out k u ⟨k1, k2⟩ p q HP.out HQ.out HL.out true ⟨fun _ => HS.out, fun _ => rfl⟩ _ HM.out.ints).mono ?_); rintro e w1 ⟨rfl, hb⟩; have HN := hid (HM.out.stays hb); clear hb c0 c1 c2 d0 d1 d2 d3 hz HM; have HM := HN; clear HN; have c0 := HM.out.c0; have c1 := HM.out.c1; have c2 := HM.out.c2; have d0 := HM.out.d0; have d1 := HM.out.d1; have d2 := HM.out.d2; have d3 := HM.out.d3; have hz := HM.out.size))
      all_goals go_ret
      all_goals exact ⟨rfl, HM.out.below⟩

/-- The first error of a land and a span. -/
def FErr (W H : Int) (n : Nat) (Z : Nat → Int) (k a b u e : Int) : Prop :=
  (e ≠ 0 ∧ VErr W H n Z e) ∨ ∃ W' H' : Nat, W = W' ∧ H = H' ∧ Good W' H' n Z ∧ SErr W' H' Z k a b u e
theorem FErr.ex (W H : Int) (n : Nat) (Z : Nat → Int) (k a b u : Int) : ∃ e, FErr W H n Z k a b u e := by
  obtain ⟨e, he⟩ := VErr.ex W H n Z
  by_cases h0 : e = 0
  · subst h0
    obtain ⟨W', H', rfl, rfl, hg⟩ := he.ok.good
    obtain ⟨e, he⟩ := SErr.ex W' H' Z k a b u
    exact ⟨e, .inr ⟨W', H', rfl, rfl, hg, he⟩⟩
  · exact ⟨e, .inl ⟨h0, he⟩⟩
theorem Good.err {W H n : Nat} {Z : Nat → Int} (h : Good W H n Z) : VErr W H n Z 0 := Valid.err h

set_option maxRecDepth 20000 in
set_option maxHeartbeats 3200000 in
theorem spvalidate_to (W H : Int) (ao : Option Addr) (n cap : Nat) (Z : Nat → Int) (hn : n ≤ 9223372036854775807) (k a b u e : Int) (h : FErr W H n Z k a b u e) (w : World) (hI : Ints w ao n Z) :
    Calls Try.prog 15 #[lv W H (.slice ao n cap), sv k a b u] w fun r w' => r = .returned (.int .i64 e) ∧ Below w.heap.size w w' := by
  have HM := hid (mb_start (W := W) (H := H) (cap := cap) (k := k) (a := a) (b := b) (u := u) hI)
  clear hI
  rcases h with ⟨h0, hv⟩ | ⟨W', H', rfl, rfl, hg, hs⟩
  · have HV := hid hv
    have g : (e != 0) = true := by simpa using h0
    have g2 : (e == 0) = false := by simpa using h0
    clear hv
    go_enter Try.func15, Try.ntmps15
    go_upto_region 1 with fail
    generalize World.alloc (World.alloc w _) _ = wm at HM ⊢
    have c0 := HM.out.c0; have c1 := HM.out.c1; have c2 := HM.out.c2; have d0 := HM.out.d0; have d1 := HM.out.d1; have d2 := HM.out.d2; have d3 := HM.out.d3; have hz := HM.out.size
    go_wp2_with (go_at_call 31; (with_reducible refine (validate_any W H ao n cap Z hn _ HM.out.ints e HV.out).mono ?_); rintro e w1 ⟨rfl, hb⟩; have HN := hid (HM.out.stays hb); clear hb c0 c1 c2 d0 d1 d2 d3 hz HM; have HM := HN; clear HN; have c0 := HM.out.c0; have c1 := HM.out.c1; have c2 := HM.out.c2; have d0 := HM.out.d0; have d1 := HM.out.d1; have d2 := HM.out.d2; have d3 := HM.out.d3; have hz := HM.out.size)
    go_ret
    exact ⟨rfl, HM.out.below⟩
  · have HV := hid hg.err
    have HG := hid hg
    have HS := hid hs
    clear hg hs
    go_enter Try.func15, Try.ntmps15
    go_upto_region 1 with fail
    generalize World.alloc (World.alloc w _) _ = wm at HM ⊢
    have c0 := HM.out.c0; have c1 := HM.out.c1; have c2 := HM.out.c2; have d0 := HM.out.d0; have d1 := HM.out.d1; have d2 := HM.out.d2; have d3 := HM.out.d3; have hz := HM.out.size
    go_wp2_with (first | (go_at_call 31; (with_reducible refine (validate_any W' H' ao n cap Z hn _ HM.out.ints 0 HV.out).mono ?_); rintro e w1 ⟨rfl, hb⟩; have HN := hid (HM.out.stays hb); clear hb c0 c1 c2 d0 d1 d2 d3 hz HM; have HM := HN; clear HN; have c0 := HM.out.c0; have c1 := HM.out.c1; have c2 := HM.out.c2; have d0 := HM.out.d0; have d1 := HM.out.d1; have d2 := HM.out.d2; have d3 := HM.out.d3; have hz := HM.out.size) | (go_at_call 32; (with_reducible refine (validateOn_to ao n cap Z HG.out k a b u e HS.out _ HM.out.ints).mono ?_); rintro e w1 ⟨rfl, hb⟩; have HN := hid (HM.out.stays hb); clear hb c0 c1 c2 d0 d1 d2 d3 hz HM; have HM := HN; clear HN; have c0 := HM.out.c0; have c1 := HM.out.c1; have c2 := HM.out.c2; have d0 := HM.out.d0; have d1 := HM.out.d1; have d2 := HM.out.d2; have d3 := HM.out.d3; have hz := HM.out.size))
    go_ret
    exact ⟨rfl, HM.out.below⟩

/-- What Cost hands back: what the span costs, and its error. -/
def CostIs (W H : Int) (n : Nat) (Z : Nat → Int) (k a b u c e : Int) : Prop :=
  (e ≠ 0 ∧ c = 0 ∧ FErr W H n Z k a b u e) ∨ (e = 0 ∧ ∃ W' H' p q : Nat, W = W' ∧ H = H' ∧ a = p ∧ b = q ∧ Good W' H' n Z ∧ Rt W' H' Z k p q u ∧ c = prc k (cnt (stp W' p q) p q))
theorem CostIs.ex (W H : Int) (n : Nat) (Z : Nat → Int) (k a b u : Int) : ∃ c e, CostIs W H n Z k a b u c e := by
  obtain ⟨e, he⟩ := FErr.ex W H n Z k a b u
  by_cases h0 : e = 0
  · subst h0
    rcases he with ⟨h, _⟩ | ⟨W', H', rfl, rfl, hg, hs⟩
    · exact absurd rfl h
    · obtain ⟨p, q, rfl, rfl, hr⟩ := hs.right
      exact ⟨_, 0, .inr ⟨rfl, W', H', p, q, rfl, rfl, rfl, rfl, hg, hr, rfl⟩⟩
  · exact ⟨0, e, .inl ⟨h0, rfl, he⟩⟩

set_option maxRecDepth 20000 in
set_option maxHeartbeats 3200000 in
theorem spcost_to (W H : Int) (ao : Option Addr) (n cap : Nat) (Z : Nat → Int) (hn : n ≤ 9223372036854775807) (k a b u c e : Int) (h : CostIs W H n Z k a b u c e) (w : World) (hI : Ints w ao n Z) :
    Calls Try.prog 17 #[lv W H (.slice ao n cap), sv k a b u] w fun r w' => r = .returned (.tuple #[.int .i64 c, .int .i64 e]) ∧ Below w.heap.size w w' := by
  have HM := hid (mb_start (W := W) (H := H) (cap := cap) (k := k) (a := a) (b := b) (u := u) hI)
  clear hI
  rcases h with ⟨h0, rfl, hv⟩ | ⟨rfl, W', H', p, q, rfl, rfl, rfl, rfl, hg, hr, hc⟩
  · have HV := hid hv
    have g : (e != 0) = true := by simpa using h0
    have g2 : (e == 0) = false := by simpa using h0
    clear hv
    go_enter Try.func17, Try.ntmps17
    go_upto_region 1 with fail
    generalize World.alloc (World.alloc w _) _ = wm at HM ⊢
    have c0 := HM.out.c0; have c1 := HM.out.c1; have c2 := HM.out.c2; have d0 := HM.out.d0; have d1 := HM.out.d1; have d2 := HM.out.d2; have d3 := HM.out.d3; have hz := HM.out.size
    go_wp2_with (go_at_call 15; (with_reducible refine (spvalidate_to W H ao n cap Z hn k a b u e HV.out _ HM.out.ints).mono ?_); rintro e w1 ⟨rfl, hb⟩; have HN := hid (HM.out.stays hb); clear hb c0 c1 c2 d0 d1 d2 d3 hz HM; have HM := HN; clear HN; have c0 := HM.out.c0; have c1 := HM.out.c1; have c2 := HM.out.c2; have d0 := HM.out.d0; have d1 := HM.out.d1; have d2 := HM.out.d2; have d3 := HM.out.d3; have hz := HM.out.size)
    go_ret2
    exact ⟨rfl, HM.out.below⟩
  · have HV : Hid (FErr W' H' n Z k p q u 0) := hid (Or.inr ⟨W', H', rfl, rfl, hg, hr.err⟩)
    obtain ⟨hW1, hW2, hH1, hH2⟩ := hg.side
    have hms := mul_small hW2 hH2
    have hp2 : p ≤ 1024 := by have := hr.ha; omega
    have hq2 : q ≤ 1024 := by have := hr.hb; omega
    have HK : Hid (0 ≤ k ∧ k ≤ 1) := hid ⟨hr.kd.1, hr.kd.2.1⟩
    have HL := hid hr.line
    have HC := hid hc
    clear hg hr hc
    go_enter Try.func17, Try.ntmps17
    go_upto_region 1 with fail
    generalize World.alloc (World.alloc w _) _ = wm at HM ⊢
    have c0 := HM.out.c0; have c1 := HM.out.c1; have c2 := HM.out.c2; have d0 := HM.out.d0; have d1 := HM.out.d1; have d2 := HM.out.d2; have d3 := HM.out.d3; have hz := HM.out.size
    go_wp2_with (first | (go_at_call 15; (with_reducible refine (spvalidate_to W' H' ao n cap Z hn k p q u 0 HV.out _ HM.out.ints).mono ?_); rintro e w1 ⟨rfl, hb⟩; have HN := hid (HM.out.stays hb); clear hb c0 c1 c2 d0 d1 d2 d3 hz HM; have HM := HN; clear HN; have c0 := HM.out.c0; have c1 := HM.out.c1; have c2 := HM.out.c2; have d0 := HM.out.d0; have d1 := HM.out.d1; have d2 := HM.out.d2; have d3 := HM.out.d3; have hz := HM.out.size) | (go_at_call 34; (with_reducible refine (cost_any W' H' hW1 hW2 ao n cap Z k u HK.out p q hp2 hq2 HL.out _ HM.out.ints).mono ?_); rw [← HC.out]; rintro e w1 ⟨rfl, hb⟩; have HN := hid (HM.out.stays hb); clear hb c0 c1 c2 d0 d1 d2 d3 hz HM; have HM := HN; clear HN; have c0 := HM.out.c0; have c1 := HM.out.c1; have c2 := HM.out.c2; have d0 := HM.out.d0; have d1 := HM.out.d1; have d2 := HM.out.d2; have d3 := HM.out.d3; have hz := HM.out.size))
    go_ret2
    exact ⟨rfl, HM.out.below⟩
end Go.Proofs.Ytpohhcmkkjcelaa
