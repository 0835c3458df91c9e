/-
  The walk of the law on Joined.
-/
import Derived.Test.YtkpnngpnjimogaaWRJnd
namespace Go.Proofs.Ytkpnngpnjimogaa
open Go.RowKit

/-- Where a ship may go it may go back. -/
theorem joi_back {W H : Nat} {Z K : Nat → Int} (hs : Sized W H) {t : Nat} (ht : t < W * H) {s : Int} (hs0 : 0 ≤ s) (hs3 : s ≤ 3) (h : joi W H Z K t s = true) :
    ∃ u : Nat, bey W H t s = u ∧ u < W * H ∧ joi W H Z K u ((s + 2) % 4) = true := by
  have hWH : (W : Int) * (H : Int) = ((W * H : Nat) : Int) := by simp
  have h0 := joi_bey h
  have hin := bey_in hs (t := (t : Int)) (by omega) (by rw [hWH]; omega) h0
  have hbk := bey_back hs (t := (t : Int)) (by omega) (by rw [hWH]; omega) hs0 hs3 h0
  obtain ⟨u, hu⟩ : ∃ u : Nat, bey W H t s = u := ⟨(bey W H t s).toNat, by omega⟩
  rw [hu] at hin hbk
  rw [hWH] at hin
  refine ⟨u, hu, by omega, ?_⟩
  unfold joi at h ⊢
  rw [hu, if_neg (by omega), Int.toNat_natCast] at h
  rw [hbk, if_neg (by omega), Int.toNat_natCast]
  have ho : ((s + 2) % 4 + 2) % 4 = s := by omega
  unfold joi2 at h ⊢
  rw [ho]
  by_cases hw : wt W Z K t = false ∨ wt W Z K u = false
  · rw [if_pos hw] at h; cases h
  · rw [if_neg hw] at h
    rw [if_neg (fun h => hw h.symm)]
    by_cases h12 : K t = 2 ∧ K u = 2
    · rw [if_pos h12] at h; cases h
    · rw [if_neg h12] at h
      rw [if_neg (fun h => h12 h.symm)]
      by_cases h1 : K t = 2
      · rw [if_pos h1] at h
        rw [if_neg (fun h2 => h12 ⟨h1, h2⟩), if_pos h1]
        exact h
      · rw [if_neg h1] at h
        by_cases h2 : K u = 2
        · rw [if_pos h2] at h ⊢
          exact h
        · rw [if_neg h2] at h
          rw [if_neg h2, if_neg h1]
          simpa using (by simpa using h : lev W Z t = lev W Z u).symm
set_option maxRecDepth 20000 in
set_option maxHeartbeats 12800000 in
theorem walk_joins (Wd Hd : Int) (ao : Option Addr) (n cap : Nat) (Z : Nat → Int) (hn : n ≤ 9223372036854775807) (ko : Option Addr) (m kcap : Nat) (K : Nat → Int) (hm : m ≤ 9223372036854775807) (bo : Option Addr) (q bcap : Nat) (Y : Nat → Int) (hq : q ≤ 9223372036854775807) (t s : Int) (w : World) (hI : Ints w ao n Z) (hK : Ints w ko m K) (hY : Ints w bo q Y) :
    Calls Try.prog 7 #[lv Wd Hd (.slice ao n cap), .agg #[.slice ko m kcap, .slice bo q bcap], .int .i64 t, .int .i64 s] w fun e w' => e = .returned (.bool true) ∧ Below w.heap.size w w' := by
  have HL := hid (LW.start (W := Wd) (H := Hd) (cap := cap) (kcap := kcap) (bcap := bcap) hI hK hY)
  obtain ⟨A, hA⟩ : ∃ A, A = w.heap.size := ⟨_, rfl⟩
  have HA := hid hA
  clear hI hK hY
  by_cases hl : n ≤ 4000 ∧ m ≤ 4000 ∧ q ≤ 4000
  · obtain ⟨b, e, he⟩ := JOut.ex Wd Hd n m q Z K Y t s
    have HJ := hid he
    have HLN := hid hl
    obtain ⟨l1, l2, l3⟩ := hl
    clear l2
    cases b
    · clear he
      go_enter Try.func7, Try.ntmps7
      go_upto_region 1 with fail
      generalize World.alloc _ _ = w1 at HL ⊢
      simp only [← hA] at HL ⊢
      have c0 := HL.out.c0
      have c1 := HL.out.c1
      have c2 := HL.out.c2
      have c3 := HL.out.c3
      have c4 := HL.out.c4
      have hz := HL.out.size
      simp only [← HA.out] at c0 c1 c2 c3 c4 hz
      clear hA
      go_wp2_with (first | (go_at_call 14; (refine (large_no Wd Hd ao ko bo n cap m kcap q bcap HLN.out _).mono ?_); rintro r wn ⟨rfl, hb⟩; have HLn := hid (HL.out.stays hb); clear hb c0 c1 c2 c3 c4 hz HL; have HL := HLn; clear HLn; have c0 := HL.out.c0; have c1 := HL.out.c1; have c2 := HL.out.c2; have c3 := HL.out.c3; have c4 := HL.out.c4; have hz := HL.out.size; simp only [← HA.out] at c0 c1 c2 c3 c4 hz) | (go_at_call 23; ((with_reducible refine (wjoined_to Wd Hd ao ko bo n cap m kcap q bcap Z K Y l1 l3 t s false e HJ.out _ HL.out.land HL.out.kinds HL.out.buoys).mono ?_)); rintro r wn ⟨rfl, hb⟩; have HLn := hid (HL.out.stays hb); clear hb c0 c1 c2 c3 c4 hz HL; have HL := HLn; clear HLn; have c0 := HL.out.c0; have c1 := HL.out.c1; have c2 := HL.out.c2; have c3 := HL.out.c3; have c4 := HL.out.c4; have hz := HL.out.size; simp only [← HA.out] at c0 c1 c2 c3 c4 hz) | (go_at_call 24; (refine (refjoined_to Wd Hd ao ko bo n cap m kcap q bcap Z K Y l1 l3 t s false e HJ.out _ HL.out.land HL.out.kinds HL.out.buoys).mono ?_); rintro r wn ⟨rfl, hb⟩; have HLn := hid (HL.out.stays hb); clear hb c0 c1 c2 c3 c4 hz HL; have HL := HLn; clear HLn; have c0 := HL.out.c0; have c1 := HL.out.c1; have c2 := HL.out.c2; have c3 := HL.out.c3; have c4 := HL.out.c4; have hz := HL.out.size; simp only [← HA.out] at c0 c1 c2 c3 c4 hz) | (go_at_call 15; (refine (known_any _).mono ?_); rintro r wn ⟨rfl, hb⟩; have HLn := hid (HL.out.stays hb); clear hb c0 c1 c2 c3 c4 hz HL; have HL := HLn; clear HLn; have c0 := HL.out.c0; have c1 := HL.out.c1; have c2 := HL.out.c2; have c3 := HL.out.c3; have c4 := HL.out.c4; have hz := HL.out.size; simp only [← HA.out] at c0 c1 c2 c3 c4 hz))
      go_ret
      exact ⟨rfl, HL.out.below⟩
    · obtain ⟨W', H', rfl, rfl, hg, hf, hji⟩ : ∃ W' H' : Nat, Wd = W' ∧ Hd = H' ∧ Good W' H' n Z ∧ Fine W' H' m q Z K Y ∧ JI W' H' Z K t s true e := by
        rcases he with ⟨_, _, h⟩ | h
        · cases h
        · exact h
      obtain ⟨rfl, ⟨s0, s3⟩, u, rfl, hu, hj⟩ : e = 0 ∧ (0 ≤ s ∧ s ≤ 3) ∧ ∃ u : Nat, t = u ∧ u < W' * H' ∧ true = joi W' H' Z K u s := by
        rcases hji with ⟨_, h, _⟩ | ⟨_, h, _⟩ | h
        · cases h
        · cases h
        · exact h
      have hsd := hg.side
      have hSz : Sized W' H' := ⟨⟨by omega, by omega⟩, by omega, by omega⟩
      have hWH : (W' : Int) * (H' : Int) = ((W' * H' : Nat) : Int) := by simp
      obtain ⟨v, hv, hvl, hvj⟩ := joi_back hSz hu s0 s3 hj.symm
      have HBY := hid (fun w => refbeyond_any W' H' u s v hSz (by omega) (by rw [hWH]; omega) s0 s3 hv w)
      obtain ⟨o, ho⟩ : ∃ o, (s + 2) % 4 = o := ⟨_, rfl⟩
      rw [ho] at hvj
      have HJ2 : Hid (JOut W' H' n m q Z K Y v o true 0) := hid (.inr ⟨W', H', rfl, rfl, hg, hf, .inr (.inr ⟨rfl, by omega, v, rfl, hvl, hvj.symm⟩)⟩)
      have hw2 : IntKind.i64.wrap (s + 2) = s + 2 := by rw [IntKind.wrap_i64]; omega
      have hmo : Int.tmod (s + 2) 4 = o := by rw [← ho]; exact Int.tmod_eq_emod_of_nonneg (by omega)
      have ho3 : 0 ≤ o ∧ o ≤ 3 := by omega
      have hwo : IntKind.i64.wrap o = o := by rw [IntKind.wrap_i64]; omega
      clear he hji hg hf hj hsd hSz hWH hv hvl hvj hu
      go_enter Try.func7, Try.ntmps7
      go_upto_region 1 with fail
      generalize World.alloc _ _ = w1 at HL ⊢
      simp only [← hA] at HL ⊢
      have c0 := HL.out.c0
      have c1 := HL.out.c1
      have c2 := HL.out.c2
      have c3 := HL.out.c3
      have c4 := HL.out.c4
      have hz := HL.out.size
      simp only [← HA.out] at c0 c1 c2 c3 c4 hz
      clear hA
      go_upto_region 8 with (first | (go_at_call 14; (refine (large_no W' H' ao ko bo n cap m kcap q bcap HLN.out _).mono ?_); rintro r wn ⟨rfl, hb⟩; have HLn := hid (HL.out.stays hb); clear hb c0 c1 c2 c3 c4 hz HL; have HL := HLn; clear HLn; have c0 := HL.out.c0; have c1 := HL.out.c1; have c2 := HL.out.c2; have c3 := HL.out.c3; have c4 := HL.out.c4; have hz := HL.out.size; simp only [← HA.out] at c0 c1 c2 c3 c4 hz) | (go_at_call 23; ((with_reducible refine (wjoined_to W' H' ao ko bo n cap m kcap q bcap Z K Y l1 l3 u s true 0 HJ.out _ HL.out.land HL.out.kinds HL.out.buoys).mono ?_)); rintro r wn ⟨rfl, hb⟩; have HLn := hid (HL.out.stays hb); clear hb c0 c1 c2 c3 c4 hz HL; have HL := HLn; clear HLn; have c0 := HL.out.c0; have c1 := HL.out.c1; have c2 := HL.out.c2; have c3 := HL.out.c3; have c4 := HL.out.c4; have hz := HL.out.size; simp only [← HA.out] at c0 c1 c2 c3 c4 hz) | (go_at_call 24; (refine (refjoined_to W' H' ao ko bo n cap m kcap q bcap Z K Y l1 l3 u s true 0 HJ.out _ HL.out.land HL.out.kinds HL.out.buoys).mono ?_); rintro r wn ⟨rfl, hb⟩; have HLn := hid (HL.out.stays hb); clear hb c0 c1 c2 c3 c4 hz HL; have HL := HLn; clear HLn; have c0 := HL.out.c0; have c1 := HL.out.c1; have c2 := HL.out.c2; have c3 := HL.out.c3; have c4 := HL.out.c4; have hz := HL.out.size; simp only [← HA.out] at c0 c1 c2 c3 c4 hz))
      go_wp2_with fail
      go_region_held3 (fun w' => LW W' H' ao ko bo n cap m kcap q bcap Z K Y w w' ∧ w'.cell? ⟨A, 0, none⟩ = some (.int .i64 W') ∧ w'.cell? ⟨A, 1, none⟩ = some (.int .i64 H') ∧ w'.cell? ⟨A, 2, none⟩ = some (.slice ao n cap) ∧ w'.cell? ⟨A + 1, 0, none⟩ = some (.slice ko m kcap) ∧ w'.cell? ⟨A + 1, 1, none⟩ = some (.slice bo q bcap))
        (first
        | exact lw_keep HA.out (And.intro HL.out trivial) ((Below.refl _ _).drew)
        | exact lw_keep HA.out (by assumption) hb
        | assumption)
        (first
          | (go_at_call 25; (refine (HBY.out _).mono ?_); rintro r wx ⟨rfl, hb⟩)
          | (go_at_call 23; (refine (wjoined_to W' H' ao ko bo n cap m kcap q bcap Z K Y l1 l3 v o true 0 HJ2.out _ (lw_l (by assumption)) (lw_k (by assumption)) (lw_b (by assumption))).mono ?_); rintro r wx ⟨rfl, hb⟩))
      all_goals
        rename_i hh
        have HL2 := hid hh.1
        clear hh hb
        go_wp2_with (go_at_call 15; (refine (known_any _).mono ?_); rintro r wn ⟨rfl, hb⟩; have HL3 := hid (HL2.out.stays hb); clear hb)
        go_ret
        exact ⟨rfl, HL3.out.below⟩
  · have HN : Hid (4000 < n ∨ 4000 < m ∨ 4000 < q) := hid (by omega)
    clear hl
    go_enter Try.func7, Try.ntmps7
    go_upto_region 1 with fail
    generalize World.alloc _ _ = w1 at HL ⊢
    simp only [← hA] at HL ⊢
    have c0 := HL.out.c0
    have c1 := HL.out.c1
    have c2 := HL.out.c2
    have c3 := HL.out.c3
    have c4 := HL.out.c4
    have hz := HL.out.size
    simp only [← HA.out] at c0 c1 c2 c3 c4 hz
    clear hA
    go_wp2_with (first
      | (go_at_call 14; (refine (large_yes Wd Hd ao ko bo n cap m kcap q bcap hn hm hq HN.out _).mono ?_); rintro r wn ⟨rfl, hb⟩; have HLn := hid (HL.out.stays hb); clear hb c0 c1 c2 c3 c4 hz HL; have HL := HLn; clear HLn; have c0 := HL.out.c0; have c1 := HL.out.c1; have c2 := HL.out.c2; have c3 := HL.out.c3; have c4 := HL.out.c4; have hz := HL.out.size; simp only [← HA.out] at c0 c1 c2 c3 c4 hz)
      | (go_at_call 15; (refine (known_any _).mono ?_); rintro r wn ⟨rfl, hb⟩; have HLn := hid (HL.out.stays hb); clear hb c0 c1 c2 c3 c4 hz HL; have HL := HLn; clear HLn; have c0 := HL.out.c0; have c1 := HL.out.c1; have c2 := HL.out.c2; have c3 := HL.out.c3; have c4 := HL.out.c4; have hz := HL.out.size; simp only [← HA.out] at c0 c1 c2 c3 c4 hz))
    go_ret
    exact ⟨rfl, HL.out.below⟩
end Go.Proofs.Ytkpnngpnjimogaa
