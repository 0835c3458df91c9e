/-
  The walks of Meets, lets, Leave of the reference, of lets and the closure of exits of the program.
-/
import Derived.Test.YtaepiegbpgkciaaWalkJoin
namespace Go.Proofs.Ytaepiegbpgkciaa
open Go.RowKit

theorem lets_iff (y s : Int) : lets y s = true ↔ (y = 0 ∨ y = 1 ∧ s < 2 ∨ y = 2 ∧ 1 < s) := by unfold lets; simp
set_option maxHeartbeats 800000 in
theorem lets_any (y s : Int) (hy : 0 ≤ y ∧ y ≤ 2) (hs : 0 ≤ s ∧ s ≤ 3) (b : Bool) (hb : lets y s = b) (w : World) : Calls Try.prog 69 #[.int .i64 y, .int .i64 s] w fun e w' => e = .returned (.bool b) ∧ w = w' := by
  have HB : Hid (b = true ↔ (y = 0 ∨ y = 1 ∧ s < 2 ∨ y = 2 ∧ 1 < s)) := hid (by rw [← hb]; exact lets_iff y s)
  clear hb
  obtain ⟨y0, y1⟩ := hy
  obtain ⟨s0, s1⟩ := hs
  go_enter Try.func69, Try.ntmps69
  go_wp2
  all_goals go_ret
  all_goals (refine ⟨ret_bool ?_, rfl⟩; rw [Bool.eq_iff_iff, HB.out]; simp only [beq_iff_eq, beq_eq_false_iff_ne] at *; first | omega | (simp; omega))
set_option maxHeartbeats 800000 in
theorem reflets_any (y s : Int) (hy : 0 ≤ y ∧ y ≤ 2) (hs : 0 ≤ s ∧ s ≤ 3) (b : Bool) (hb : lets y s = b) (w : World) : Calls Try.prog 74 #[.int .i64 y, .int .i64 s] w fun e w' => e = .returned (.bool b) ∧ w = w' := by
  have HB : Hid (b = true ↔ (y = 0 ∨ y = 1 ∧ s < 2 ∨ y = 2 ∧ 1 < s)) := hid (by rw [← hb]; exact lets_iff y s)
  clear hb
  obtain ⟨y0, y1⟩ := hy
  obtain ⟨s0, s1⟩ := hs
  rcases (show y = 0 ∨ y = 1 ∨ y = 2 by omega) with rfl | rfl | rfl
  all_goals
    go_enter Try.func74, Try.ntmps74
    go_wp2
    all_goals go_ret
    all_goals (refine ⟨ret_bool ?_, rfl⟩; rw [Bool.eq_iff_iff, HB.out]; first | omega | (simp; done) | (simp; omega))

set_option maxHeartbeats 3200000 in
theorem meets_to (W H : Int) (ao : Option Addr) (n cap : Nat) (Z : Nat → Int) (bo : Option Addr) (m bcap : Nat) (Y : Nat → Int) (hs : Sized W H) (hn : (n : Int) = W * H) (hz : ∀ i, i < n → 0 ≤ Z i ∧ Z i ≤ 15) (t : Nat) (s : Int) (ht : t < n) (hs0 : 0 ≤ s) (hs3 : s ≤ 3) (k : Int) (hk : met W H Z t s = k) (w : World) (hI : Ints w ao n Z) (hB : Ints w bo m Y) :
    Calls Try.prog 55 #[rv W H (.slice ao n cap) (.slice bo m bcap), .int .i64 t, .int .i64 s] w fun r w' => r = .returned (.int .i64 k) ∧ Below w.heap.size w w' := by
  have HS := hid (sb_start (W := W) (H := H) (cap := cap) (bcap := bcap) hI hB)
  obtain ⟨b, hb⟩ : ∃ b, bey W H t s = b := ⟨_, rfl⟩
  obtain ⟨d, hd⟩ : ∃ d, (s + 2) % 4 = d := ⟨_, rfl⟩
  have hd0 : 0 ≤ d := by omega
  have hd3 : d ≤ 3 := by omega
  have HDD : Hid (0 ≤ d ∧ d ≤ 3) := hid ⟨hd0, hd3⟩
  have HSS : Hid (0 ≤ s ∧ s ≤ 3) := hid ⟨hs0, hs3⟩
  have hbi : 0 ≤ b → b < n := fun h => by rw [hn, ← hb]; exact bey_in hs (by omega) (by omega) (by omega)
  have HK : Hid (k = if 0 ≤ b ∧ has (Z t) s = true ∧ has (Z b.toNat) d = true then b else -1) := hid (by rw [← hk]; unfold met; rw [hb, hd, Int.toNat_natCast])
  have e2 : Int.tmod (s + 2) 4 = d := by rw [← hd]; exact Int.tmod_eq_emod_of_nonneg (by omega)
  have HB0 := hid hb
  have HSz := hid hs
  have HN : Hid ((t : Int) < W * H) := hid (by omega)
  have HZT := hid (hz t ht)
  have HTN : Hid ((0 : Int) ≤ (t : Int)) := hid (by omega)
  have kt1 : (t : Int) < (n : Int) := by omega
  obtain ⟨X, hX⟩ : ∃ X, X = w.heap.size := ⟨_, rfl⟩
  have HX := hid hX
  obtain ⟨g, off, rfl, hgz, hct⟩ := ints_cell hI ht
  have HCT := hid hct
  have HALL := hid hI
  obtain ⟨z, hz'⟩ : ∃ z, z = Z t := ⟨_, rfl⟩
  rw [← hz'] at HCT HZT HK
  clear hI hB hk hb hd hn hct
  by_cases hb0 : 0 ≤ b
  · have hbn := hbi hb0
    obtain ⟨k0, rfl⟩ := Int.eq_ofNat_of_zero_le hb0
    have HKN : Hid (k0 < n) := hid (by omega)
    have HZK := hid (hz k0 HKN.out)
    obtain ⟨g', off', he, hgz', hck⟩ := ints_cell HALL.out HKN.out
    obtain ⟨rfl, rfl⟩ : g = g' ∧ off = off' := by simpa using he
    obtain ⟨y, hy'⟩ : ∃ y, y = Z k0 := ⟨_, rfl⟩
    rw [Int.toNat_natCast, ← hy'] at HK
    rw [← hy'] at hck HZK
    have HCK := hid hck
    clear hbi hz hs ht he hz' hgz' hck hy' HALL
    cases ha : has z s
    · have HA := hid ha
      have HF : Hid (k = -1) := hid (by rw [HK.out, if_neg (by rw [ha]; simp)])
      clear ha HK
      go_enter Try.func55, Try.ntmps55
      go_wp2_with fail
      refine (refbeyond_any W H t s k0 HSz.out HTN.out HN.out hs0 hs3 HB0.out _).mono ?_
      rintro r w2 ⟨rfl, hb2⟩
      have HS2 := hid (HS.out.stays hb2)
      obtain ⟨c0, c1, c2, c3, hz2⟩ := HS2.out.at HX.out
      have ct := ((HS.out.below.trans (hb2.mono HS.out.below.size)).cell (p := ⟨g, off + t, none⟩) hgz).trans HCT.out
      have ck := ((HS.out.below.trans (hb2.mono HS.out.below.size)).cell (p := ⟨g, off + k0, none⟩) hgz).trans HCK.out
      simp only [← hX] at c0 c1 c2 c3 ⊢
      clear hb2 HS hX
      go_wp2_with (go_at_call 51; with_reducible refine (has_any z s HZT.out HSS.out false HA.out _).mono ?_; rintro e w' ⟨rfl, rfl⟩)
      go_ret
      exact ⟨ret_int HF.out.symm, HS2.out.below⟩
    · have HA := hid ha
      cases hc : has y d
      · have HB := hid hc
        have HF : Hid (k = -1) := hid (by rw [HK.out, if_neg (by rw [hc]; simp)])
        clear ha hc HK
        go_enter Try.func55, Try.ntmps55
        go_wp2_with fail
        refine (refbeyond_any W H t s k0 HSz.out HTN.out HN.out hs0 hs3 HB0.out _).mono ?_
        rintro r w2 ⟨rfl, hb2⟩
        have HS2 := hid (HS.out.stays hb2)
        obtain ⟨c0, c1, c2, c3, hz2⟩ := HS2.out.at HX.out
        have ct := ((HS.out.below.trans (hb2.mono HS.out.below.size)).cell (p := ⟨g, off + t, none⟩) hgz).trans HCT.out
        have ck := ((HS.out.below.trans (hb2.mono HS.out.below.size)).cell (p := ⟨g, off + k0, none⟩) hgz).trans HCK.out
        simp only [← hX] at c0 c1 c2 c3 ⊢
        clear hb2 HS hX
        go_wp2_with (first | (go_at_call 51; with_reducible refine (has_any z s HZT.out HSS.out true HA.out _).mono ?_; rintro e w' ⟨rfl, rfl⟩) | (go_at_call 51; with_reducible refine (has_any y d HZK.out HDD.out false HB.out _).mono ?_; rintro e w' ⟨rfl, rfl⟩))
        go_ret
        exact ⟨ret_int HF.out.symm, HS2.out.below⟩
      · have HB := hid hc
        have HF : Hid (k = (k0 : Int)) := hid (by rw [HK.out, if_pos ⟨by omega, ha, hc⟩])
        clear ha hc HK
        go_enter Try.func55, Try.ntmps55
        go_wp2_with fail
        refine (refbeyond_any W H t s k0 HSz.out HTN.out HN.out hs0 hs3 HB0.out _).mono ?_
        rintro r w2 ⟨rfl, hb2⟩
        have HS2 := hid (HS.out.stays hb2)
        obtain ⟨c0, c1, c2, c3, hz2⟩ := HS2.out.at HX.out
        have ct := ((HS.out.below.trans (hb2.mono HS.out.below.size)).cell (p := ⟨g, off + t, none⟩) hgz).trans HCT.out
        have ck := ((HS.out.below.trans (hb2.mono HS.out.below.size)).cell (p := ⟨g, off + k0, none⟩) hgz).trans HCK.out
        simp only [← hX] at c0 c1 c2 c3 ⊢
        clear hb2 HS hX
        go_wp2_with (first | (go_at_call 51; with_reducible refine (has_any z s HZT.out HSS.out true HA.out _).mono ?_; rintro e w' ⟨rfl, rfl⟩) | (go_at_call 51; with_reducible refine (has_any y d HZK.out HDD.out true HB.out _).mono ?_; rintro e w' ⟨rfl, rfl⟩))
        go_ret
        exact ⟨ret_int HF.out.symm, HS2.out.below⟩
  · have HF : Hid (k = -1) := hid (by rw [HK.out, if_neg (fun h => hb0 h.1)])
    have hb1 : b < 0 := by omega
    clear hbi hz hs hb0 ht hz' HK HALL
    go_enter Try.func55, Try.ntmps55
    go_wp2_with fail
    refine (refbeyond_any W H t s b HSz.out HTN.out HN.out hs0 hs3 HB0.out _).mono ?_
    rintro r w2 ⟨rfl, hb2⟩
    have HS2 := hid (HS.out.stays hb2)
    clear hb2 HS
    go_wp2_with fail
    go_ret
    exact ⟨ret_int HF.out.symm, HS2.out.below⟩
end Go.Proofs.Ytaepiegbpgkciaa
