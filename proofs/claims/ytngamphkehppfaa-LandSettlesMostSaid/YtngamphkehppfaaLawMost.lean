/-
  The walk of the law that a settled land is the highest below its heights.
-/
import Derived.Test.YtngamphkehppfaaLawSettles
import Derived.Test.YtngamphkehppfaaWalkV1
namespace Go.Proofs.Ytngamphkehppfaa
open Go.RowKit

set_option maxRecDepth 20000 in
set_option maxHeartbeats 3200000 in
theorem walk_most (W H : Int) (ao : Option Addr) (n cap : Nat) (Z : Nat → Int) (bo : Option Addr) (m cap2 : Nat) (hm : m ≤ 9223372036854775807) (T : Nat → Int) (hn : n ≤ 9223372036854775807) (w : World) (hI : Ints w ao n Z) (hT : Ints w bo m T) :
    Calls Try.prog 5 #[.int .i64 W, .int .i64 H, .slice ao n cap, .slice bo m cap2] w fun r w' => r = .returned (.bool true) ∧ Below w.heap.size w w' := by
  have HI := hid hI
  have HT := hid hT
  clear hI hT
  by_cases hs : Shaped W H n
  · have hb := hs.bound
    obtain ⟨W', rfl⟩ : ∃ W' : Nat, W = (W' : Int) := ⟨W.toNat, by have := hs.1.1; omega⟩
    obtain ⟨H', rfl⟩ : ∃ H' : Nat, H = (H' : Int) := ⟨H.toNat, by have := hs.1.2; omega⟩
    have HS := hid hs
    clear hs
    go_enter Try.func5, Try.ntmps5
    go_wp2_with fail
    refine (settle_yes W' H' ao n cap Z HS.out w HI.out).mono ?_
    rintro r w2 ⟨g, c, Y, rfl, hr, hb2, h1, h2, h3⟩
    have hia := ints_of_row hr
    have ka := Joins.below_alloc1 w2 (.cells #[.int .i64 W', .int .i64 H', .slice (some ⟨g, 0, none⟩) n c] 24)
    have HB2 := hid (hb2.trans (ka.mono hb2.size))
    have HIA := hid (hia.stays ka)
    have HUL := hid (And.intro h1 h2)
    have HG : Hid (Good W' H' n Y) := hid (good_of_lip HS.out h3 (settle_lip h1 h2))
    clear hb2 hia ka h1 h2 h3 hr
    obtain ⟨b1, hb1⟩ : ∃ b, b = w2.heap.size := ⟨_, rfl⟩
    have a0 : (w2.alloc (.cells #[.int .i64 W', .int .i64 H', .slice (some ⟨g, 0, none⟩) n c] 24)).cell? ⟨b1, 0, none⟩ = some (.int .i64 W') := by rw [hb1]; simp
    have a1 : (w2.alloc (.cells #[.int .i64 W', .int .i64 H', .slice (some ⟨g, 0, none⟩) n c] 24)).cell? ⟨b1, 1, none⟩ = some (.int .i64 H') := by rw [hb1]; simp
    have a2 : (w2.alloc (.cells #[.int .i64 W', .int .i64 H', .slice (some ⟨g, 0, none⟩) n c] 24)).cell? ⟨b1, 2, none⟩ = some (.slice (some ⟨g, 0, none⟩) n c) := by rw [hb1]; simp
    have az : b1 < (w2.alloc (.cells #[.int .i64 W', .int .i64 H', .slice (some ⟨g, 0, none⟩) n c] 24)).heap.size := by rw [hb1]; simp
    go_wp2_with fail
    simp only [← hb1]
    have HB1 := hid hb1
    clear hb1
    generalize w2.alloc (.cells #[.int .i64 W', .int .i64 H', .slice (some ⟨g, 0, none⟩) n c] 24) = w3 at *
    refine (validate_any W' H' _ n c Y hn _ HIA.out 0 HG.out.err).mono ?_
    rintro r w4 ⟨rfl, hb4⟩
    have HB4 := hid (step HB2.out hb4)
    have HIA4 := hid (HIA.out.stays hb4)
    have a2' := (hb4.cell (p := ⟨b1, 2, none⟩) az).trans a2
    have az' : b1 < w4.heap.size := Nat.lt_of_lt_of_le az hb4.size
    clear hb4 a0 a1 a2 HIA az
    go_wp2_with fail
    obtain ⟨e, hE⟩ := VErr.ex W' H' m T
    have HE := hid hE
    clear hE
    refine (validate_any W' H' bo m cap2 T hm _ (HT.out.stays HB4.out) e HE.out).mono ?_
    rintro r w5 ⟨rfl, hb5⟩
    have HB5 := hid (step HB4.out hb5)
    have HIA5 := hid (HIA4.out.stays hb5)
    have a2 := (hb5.cell (p := ⟨b1, 2, none⟩) az').trans a2'
    have az : b1 < w5.heap.size := Nat.lt_of_lt_of_le az' hb5.size
    clear hb5 a2' az' HIA4 HB2 HB4
    go_wp2_with fail
    obtain ⟨b, off, rfl, hbz, hcz⟩ := (HI.out.stays HB5.out).one (by omega)
    have HCZ := hid hcz
    have HCY := hid HIA5.out
    have HT5 := hid (HT.out.stays HB5.out)
    obtain ⟨bg, offg, hg, hgz, hcg⟩ := HIA5.out.one (by omega)
    cases hg
    simp only [Nat.zero_add] at hcg
    have HCG := hid hcg
    have HV : Hid ((e == 0) = true → Good W' H' m T) := hid (fun h => VErr.ok (by have h0 : e = 0 := (by simpa using h); have := HE.out; rw [h0] at this; exact this))
    obtain ⟨R, hR⟩ : ∃ R : Nat → Int, R = fun i => clz (Z i) := ⟨_, rfl⟩
    have HR := hid hR
    rw [← hR] at HUL
    clear hcz hcg hR
    go_loopw [61, 11] (fun iv fv wr => wr = w5 ∧ ∃ (p : Nat) (fb : Bool), p ≤ n ∧ iv = .int .i64 p ∧ fv = .bool fb ∧ Hid (fb = true → Good W' H' m T ∧ ∀ i, i < p → T i ≤ R i)) (fun iv _ _ => n - (intOf iv).toNat)
    case atStart => exact ⟨rfl, 0, _, Nat.zero_le _, rfl, rfl, hid (fun h => ⟨HV.out h, fun i hi => absurd hi (Nat.not_lt_zero _)⟩)⟩
    case round =>
      obtain ⟨rfl, p, fb, hp, rfl, rfl, hF⟩ := hrel
      by_cases hlt : p < n
      · have c0 := HCZ.out p hlt
        have c1 := HCG.out p hlt
        obtain ⟨z, hz⟩ : ∃ z, z = Z p := ⟨_, rfl⟩
        obtain ⟨y, hy⟩ : ∃ y, y = Y p := ⟨_, rfl⟩
        rw [← hz] at c0
        rw [← hy] at c1
        have hle : y ≤ clz z := by
          have := HUL.out.1 p p hlt hlt
          rw [dd_self, HR.out] at this
          have h2 : Y p ≤ clz (Z p) + 0 := this
          rw [hz, hy]; omega
        have hzp : clz z = R p := by rw [HR.out, hz]
        obtain ⟨x, hx⟩ : ∃ x, x = clz z := ⟨_, rfl⟩
        rw [← hx] at hle hzp
        have HZP := hid hzp
        have hx3 : (z < 0 ∧ x = 0) ∨ (0 ≤ z ∧ z ≤ 15 ∧ x = z) ∨ (15 < z ∧ x = 15) := by
          rw [hx]; unfold clz
          split <;> split <;> omega
        clear hz hy hzp hx
        cases fb
        · have HF : Hid (false = true → Good W' H' m T ∧ ∀ i, i < p + 1 → T i ≤ R i) := hid (fun h => by cases h)
          clear hF
          rcases hx3 with ⟨q1, rfl⟩ | ⟨q1, q2, rfl⟩ | ⟨q1, rfl⟩
          all_goals
            go_wp2_with fail
            go_roundw
            case rel => exact ⟨trivial, p + 1, false, by omega, by go_num, rfl, HF⟩
            case measure => simp [intOf]; omega
        · obtain ⟨hgt, hle2⟩ := hF.out rfl
          have hmn : m = n := by have a := hgt.len; have b := HG.out.len; omega
          obtain ⟨bt, offt, rfl, htz, hct⟩ := HT5.out.one (by omega)
          have c3 := hct p (by omega)
          obtain ⟨t, ht⟩ : ∃ t, t = T p := ⟨_, rfl⟩
          rw [← ht] at c3
          have hp3 : p < m := by omega
          have HF : ∀ fb : Bool, (fb = true → t ≤ x) → Hid (fb = true → Good W' H' m T ∧ ∀ i, i < p + 1 → T i ≤ R i) := fun fb h1 => hid (fun h2 => ⟨hgt, fun i hi => by
            by_cases e1 : i = p
            · subst e1; rw [← ht, ← HZP.out]; exact h1 h2
            · exact hle2 i (by omega)⟩)
          have HF2 := hid HF
          clear hF HF ht hct hgt hle2
          rcases hx3 with ⟨q1, rfl⟩ | ⟨q1, q2, rfl⟩ | ⟨q1, rfl⟩
          all_goals
            go_wp2_with fail
            go_roundw
            case rel => exact ⟨trivial, p + 1, _, by omega, by go_num, rfl, HF2.out _ (by simp)⟩
            case measure => simp [intOf]; omega
      · obtain rfl : n = p := by omega
        have HF3 : Hid (fb = true → m = n ∧ ∀ i, i < n → T i ≤ Y i) := hid (fun h => by
          obtain ⟨hgt, hle⟩ := hF.out h
          have hmn : m = n := by have a := hgt.len; have b := HG.out.len; omega
          refine ⟨hmn, fun i hi => HUL.out.2 T ?_ hle i hi⟩
          have := hgt.lip
          rw [hmn] at this
          exact this)
        clear hF
        obtain ⟨wk, hwk⟩ : ∃ wk, wk = wr := ⟨_, rfl⟩
        go_wp2_with fail
        go_loopw [88] (fun iv wq => ∃ p : Nat, p ≤ n ∧ iv = .int .i64 p ∧ Hid (Below wr.heap.size wr wq)) (fun iv _ => n - (intOf iv).toNat)
        case atStart => exact ⟨0, Nat.zero_le _, rfl, hid (Below.refl _ _)⟩
        case round =>
          obtain ⟨p, hp, rfl, hB⟩ := hrel
          by_cases hlt : p < n
          · cases fb
            · go_wp2_with fail
              go_region
              have hB2 := hid hB.out.drew
              go_wp2_with fail
              go_roundw
              case rel => exact ⟨p + 1, by omega, by go_num, hB2⟩
              case measure => simp [intOf]; omega
            · obtain ⟨hmn, hty⟩ := HF3.out rfl
              obtain ⟨bt, offt, rfl, htz, hct⟩ := HT5.out.one (by omega)
              have c3 := (hB.out.cell (p := ⟨bt, offt + p, none⟩) htz).trans (hct p (by omega))
              have c1 := (hB.out.cell (p := ⟨g, p, none⟩) hgz).trans (HCG.out p hlt)
              have a3 := (hB.out.cell (p := ⟨b1, 2, none⟩) az).trans a2
              have hle := hty p hlt
              obtain ⟨t, ht⟩ : ∃ t, t = T p := ⟨_, rfl⟩
              obtain ⟨y, hy⟩ : ∃ y, y = Y p := ⟨_, rfl⟩
              rw [← ht] at c3 hle
              rw [← hy] at c1 hle
              have hp3 : p < m := by omega
              have hng : ¬ y < t := by omega
              clear hct hty ht hy HF3 hmn
              go_wp2_with fail
              go_region
              have hB2 := hid hB.out.drew
              go_wp2_with fail
              go_roundw
              case rel => exact ⟨p + 1, by omega, by go_num, hB2⟩
              case measure => simp [intOf]; omega
          · obtain rfl : n = p := by omega
            go_wp2_with fail
            refine (known_any _).mono ?_
            rintro r w7 ⟨rfl, hb7⟩
            go_wp2
            go_ret
            exact ⟨rfl, step (step HB5.out hB.out) hb7⟩
  · go_enter Try.func5, Try.ntmps5
    go_wp2_with fail
    refine (settle_no W H ao n cap w hs).mono ?_
    rintro r w2 ⟨rfl, hb2⟩
    have HB2 := hid (add hb2 (.cells #[.int .i64 0, .int .i64 0, .slice none 0 0] 24))
    clear hb2
    go_wp2_with fail
    refine (known_any _).mono ?_
    rintro r w7 ⟨rfl, hb7⟩
    go_wp2
    go_ret
    exact ⟨rfl, step HB2.out hb7⟩
end Go.Proofs.Ytngamphkehppfaa
