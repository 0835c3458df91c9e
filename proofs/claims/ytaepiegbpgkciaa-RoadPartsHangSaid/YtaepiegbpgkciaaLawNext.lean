/-
  The walks of the laws on which tiles are joined and on the sides through which one may leave.
-/
import Derived.Test.YtaepiegbpgkciaaKnown
import Derived.Test.YtaepiegbpgkciaaSame
namespace Go.Proofs.Ytaepiegbpgkciaa
open Go.RowKit

theorem joined_yes {W H : Int} {n m : Nat} {Z Y : Nat → Int} {t s e : Int} (h : JIs W H n m Z Y t s true e) : Right W H n m Z Y ∧ (0 ≤ t ∧ t < n) ∧ 0 ≤ s ∧ s ≤ 3 ∧ 0 ≤ met W H Z t s := by
  obtain ⟨h, h1, h2⟩ := h
  by_cases he : e = 0
  · subst he
    obtain ⟨hR, ht, hs0, hs3⟩ := h.right
    exact ⟨hR, ht, hs0, hs3, (h2 rfl).1 rfl⟩
  · cases h1 he
theorem joined_back {W H : Int} {n m : Nat} {Z Y : Nat → Int} {t s : Int} (hR : Right W H n m Z Y) (ht : 0 ≤ t ∧ t < n) (hs0 : 0 ≤ s) (hs3 : s ≤ 3) (h : 0 ≤ met W H Z t s) :
    ∃ k, bey W H t s = k ∧ (0 ≤ k ∧ k < n) ∧ JIs W H n m Z Y k ((s + 2) % 4) true 0 := by
  have hn := hR.args.arms
  have hk := met_in (Z := Z) hR.sized ht.1 (by omega) h
  have e := (met_yes h).1
  have hb := met_back hR.sized ht.1 (by omega) hs0 hs3 h
  refine ⟨met W H Z t s, e.symm, ⟨h, by omega⟩, .inr (.inr ⟨rfl, terr_ok hR ⟨h, by omega⟩, by omega, by omega⟩), fun h => absurd rfl h, fun _ => ⟨fun _ => by rw [hb]; exact ht.1, fun _ => rfl⟩⟩

set_option maxHeartbeats 6400000 in
theorem walk_nexts (Wd Hd : Int) (ao : Option Addr) (n cap : Nat) (Z : Nat → Int) (bo : Option Addr) (m bcap : Nat) (Y : Nat → Int) (hn : n ≤ 9223372036854775807) (hm : m ≤ 9223372036854775807) (t fr : Int) (w : World) (hI : Ints w ao n Z) (hB : Ints w bo m Y) :
    Calls Try.prog 10 #[rv Wd Hd (.slice ao n cap) (.slice bo m bcap), .int .i64 t, .int .i64 fr] w fun r w' => r = .returned (.bool true) ∧ Below w.heap.size w w' := by
  obtain ⟨L, e, he⟩ := NIs.ex Wd Hd n m Z Y t fr
  have HE := hid he
  have hlen := he.len
  have HS := hid (sb_start (W := Wd) (H := Hd) (cap := cap) (bcap := bcap) hI hB)
  clear hI hB he
  obtain ⟨X, hX⟩ : ∃ X, X = w.heap.size := ⟨_, rfl⟩
  have HX := hid hX
  by_cases hf : Far n m
  · have HF := hid hf
    clear hf
    go_enter Try.func10, Try.ntmps10
    go_wp2_with fail
    refine (far_yes Wd Hd ao n cap bo m bcap hn hm HF.out _).mono ?_
    rintro r w1 ⟨rfl, hb1⟩
    have HS1 := hid (HS.out.stays hb1)
    clear hb1
    go_wp2_with fail
    refine (known_any _).mono ?_
    rintro r w2 ⟨rfl, hb2⟩
    have HS2 := hid (HS1.out.stays hb2)
    clear hb2
    go_wp2_with fail
    go_ret
    exact ⟨rfl, HS2.out.below⟩
  · have HF : Hid (n ≤ 4000 ∧ m ≤ 4000) := hid (by unfold Far at hf; omega)
    clear hf
    go_enter Try.func10, Try.ntmps10
    go_wp2_with fail
    refine (far_no Wd Hd ao n cap bo m bcap HF.out _).mono ?_
    rintro r w1 ⟨rfl, hb1⟩
    have HS1 := hid (HS.out.stays hb1)
    obtain ⟨c0, c1, c2, c3, hz1⟩ := HS1.out.at HX.out
    simp only [← hX] at c0 c1 c2 c3 ⊢
    clear hb1 HS hX
    go_wp2_with fail
    refine (next_to Wd Hd ao n cap Z bo m bcap Y hn hm t fr L e HE.out _ HS1.out.arms HS1.out.ways).mono ?_
    rintro r w2 ⟨al, cl, rfl, hrow, hb2⟩
    have HS2 := hid (HS1.out.stays hb2)
    have HI2 := hid (ints_of_row hrow rfl)
    obtain ⟨c0, c1, c2, c3, hz2⟩ := HS2.out.at HX.out
    clear hb2 hrow HS1
    go_wp2_with fail
    refine (refnext_to Wd Hd ao n cap Z bo m bcap Y hn hm t fr L e HE.out _ HS2.out.arms HS2.out.ways).mono ?_
    rintro r w3 ⟨bl, dl, rfl, hrow, hb3⟩
    have HS3 := hid (HS2.out.stays hb3)
    have HI3 := hid (HI2.out.stays hb3)
    have HJ3 := hid (ints_of_row hrow rfl)
    clear hb3 hrow HS2 HI2 c0 c1 c2 c3 hz2
    go_wp2_with fail
    refine (ints_same al bl L.length cl dl _ (by omega) _ HI3.out HJ3.out).mono ?_
    rintro r w4 ⟨rfl, k4, rfl⟩
    have HS4 := hid (HS3.out.stays (Joins.below_draws _ _ k4))
    clear HI3 HJ3
    go_wp2_with fail

    refine (known_any _).mono ?_
    rintro r w9 ⟨rfl, hb9⟩
    have HS9 := hid (HS4.out.stays hb9)
    clear hb9
    go_wp2_with fail
    go_ret
    exact ⟨rfl, HS9.out.below⟩

set_option maxHeartbeats 6400000 in
theorem walk_joins (Wd Hd : Int) (ao : Option Addr) (n cap : Nat) (Z : Nat → Int) (bo : Option Addr) (m bcap : Nat) (Y : Nat → Int) (hn : n ≤ 9223372036854775807) (hm : m ≤ 9223372036854775807) (t s : Int) (w : World) (hI : Ints w ao n Z) (hB : Ints w bo m Y) :
    Calls Try.prog 9 #[rv Wd Hd (.slice ao n cap) (.slice bo m bcap), .int .i64 t, .int .i64 s] w fun r w' => r = .returned (.bool true) ∧ Below w.heap.size w w' := by
  obtain ⟨b, e, he⟩ := JIs.ex Wd Hd n m Z Y t s
  have HE := hid he
  have HS := hid (sb_start (W := Wd) (H := Hd) (cap := cap) (bcap := bcap) hI hB)
  clear hI hB he
  obtain ⟨X, hX⟩ : ∃ X, X = w.heap.size := ⟨_, rfl⟩
  have HX := hid hX
  by_cases hf : Far n m
  · have HF := hid hf
    clear hf
    go_enter Try.func9, Try.ntmps9
    go_wp2_with fail
    refine (far_yes Wd Hd ao n cap bo m bcap hn hm HF.out _).mono ?_
    rintro r w1 ⟨rfl, hb1⟩
    have HS1 := hid (HS.out.stays hb1)
    clear hb1
    go_wp2_with fail
    refine (known_any _).mono ?_
    rintro r w2 ⟨rfl, hb2⟩
    have HS2 := hid (HS1.out.stays hb2)
    clear hb2
    go_wp2_with fail
    go_ret
    exact ⟨rfl, HS2.out.below⟩
  · have HF : Hid (n ≤ 4000 ∧ m ≤ 4000) := hid (by unfold Far at hf; omega)
    clear hf
    go_enter Try.func9, Try.ntmps9
    go_wp2_with fail
    refine (far_no Wd Hd ao n cap bo m bcap HF.out _).mono ?_
    rintro r w1 ⟨rfl, hb1⟩
    have HS1 := hid (HS.out.stays hb1)
    obtain ⟨c0, c1, c2, c3, hz1⟩ := HS1.out.at HX.out
    simp only [← hX] at c0 c1 c2 c3 ⊢
    clear hb1 HS hX
    go_wp2_with fail
    refine (joined_to Wd Hd ao n cap Z bo m bcap Y hn hm t s b e HE.out _ HS1.out.arms HS1.out.ways).mono ?_
    rintro r w2 ⟨rfl, hb2⟩
    have HS2 := hid (HS1.out.stays hb2)
    obtain ⟨c0, c1, c2, c3, hz2⟩ := HS2.out.at HX.out
    clear hb2 HS1
    go_wp2_with fail
    refine (refjoined_to Wd Hd ao n cap Z bo m bcap Y hn hm t s b e HE.out _ HS2.out.arms HS2.out.ways).mono ?_
    rintro r w3 ⟨rfl, hb3⟩
    have HS3 := hid (HS2.out.stays hb3)
    obtain ⟨c0, c1, c2, c3, hz3⟩ := HS3.out.at HX.out
    clear hb3 HS2
    cases b
    · go_wp2_with fail
      refine (known_any _).mono ?_
      rintro r w9 ⟨rfl, hb9⟩
      have HS9 := hid (HS3.out.stays hb9)
      clear hb9
      go_wp2_with fail
      go_ret
      exact ⟨rfl, HS9.out.below⟩

    · obtain ⟨hR, ht, hs0, hs3, hb1⟩ := joined_yes HE.out
      obtain ⟨k, hk, hkn, hback⟩ := joined_back hR ht hs0 hs3 hb1
      have HB := hid hback
      have HK := hid hk
      have HSz := hid hR.sized
      have HT := hid ht
      have HTW : Hid (t < Wd * Hd) := hid (by have := hR.args.arms; have := ht.2; omega)
      have e2 : Int.tmod (s + 2) 4 = (s + 2) % 4 := Int.tmod_eq_emod_of_nonneg (by omega)
      obtain ⟨d, hd⟩ : ∃ d, (s + 2) % 4 = d := ⟨_, rfl⟩
      rw [hd] at e2 HB
      have ew : IntKind.i64.wrap (s + 2) = s + 2 := by rw [IntKind.wrap_i64]; omega
      have ed : IntKind.i64.wrap d = d := by rw [IntKind.wrap_i64]; omega
      clear hR ht hb1 hk hback hd
      go_wp2_with fail
      go_region_held3 (fun w' => SB Wd Hd ao n cap Z bo m bcap Y w w' ∧ w'.cell? ⟨X, 0, none⟩ = some (.int .i64 Wd) ∧ w'.cell? ⟨X, 1, none⟩ = some (.int .i64 Hd) ∧ w'.cell? ⟨X, 2, none⟩ = some (.slice ao n cap) ∧ w'.cell? ⟨X, 3, none⟩ = some (.slice bo m bcap))
        (first
          | exact sb_keep HX.out (And.intro HS3.out trivial) ((Below.refl _ _).drew)
          | exact sb_keep HX.out (by assumption) hb
          | assumption)
        (first
          | (go_at_call 31; (refine (refbeyond_any Wd Hd t s k HSz.out HT.out.1 HTW.out hs0 hs3 HK.out _).mono ?_); rintro r w6 ⟨rfl, hb⟩)
          | (go_at_call 29; (refine (joined_to Wd Hd ao n cap Z bo m bcap Y hn hm k d true 0 HB.out _ (sb_arms (by assumption)) (sb_ways (by assumption))).mono ?_); rintro r w7 ⟨rfl, hb⟩))
      all_goals go_wp2_with fail
      all_goals (refine (known_any _).mono ?_; rintro r w9 ⟨rfl, hb9⟩)
      all_goals go_wp2_with fail
      all_goals go_ret
      all_goals exact ⟨rfl, step (sb_below (by assumption)) hb9⟩
end Go.Proofs.Ytaepiegbpgkciaa
