/-
  The walks of Leave of the reference and of the closure of exits of the program: whether one may leave a tile through a side.
-/
import Derived.Test.YtaepiegbpgkciaaWalkMeets
namespace Go.Proofs.Ytaepiegbpgkciaa
open Go.RowKit

theorem leave_no {W H : Int} {Z Y : Nat → Int} {t s : Int} (h : ¬ 0 ≤ met W H Z t s) : leave W H Z Y t s = false := by
  unfold leave; rw [decide_eq_false h]; rfl
theorem leave_at {W H : Int} {Z Y : Nat → Int} {t : Nat} {s : Int} {k : Nat} (h : met W H Z t s = k) : leave W H Z Y t s = (lets (Y t) s && lets (Y k) s) := by
  unfold leave; rw [h, decide_eq_true (by omega)]; simp

set_option maxHeartbeats 3200000 in
theorem refleave_to (W H : Int) (ao : Option Addr) (n cap : Nat) (Z : Nat → Int) (bo : Option Addr) (bcap : Nat) (Y : Nat → Int) (hs : Sized W H) (hn : (n : Int) = W * H) (hz : ∀ i, i < n → Fine (Z i) (Y i)) (t : Nat) (s : Int) (ht : t < n) (hs0 : 0 ≤ s) (hs3 : s ≤ 3) (b : Bool) (hb : leave W H Z Y t s = b) (w : World) (hI : Ints w ao n Z) (hB : Ints w bo n Y) :
    Calls Try.prog 70 #[rv W H (.slice ao n cap) (.slice bo n bcap), .int .i64 t, .int .i64 s] w fun r w' => r = .returned (.bool b) ∧ Below w.heap.size w w' := by
  have HS := hid (sb_start (W := W) (H := H) (cap := cap) (bcap := bcap) hI hB)
  obtain ⟨k, hk⟩ : ∃ k, met W H Z t s = k := ⟨_, rfl⟩
  have HK := hid hk
  have HSz := hid hs
  have HN := hid hn
  have HZ := hid hz
  have HT := hid ht
  have HSS : Hid (0 ≤ s ∧ s ≤ 3) := hid ⟨hs0, hs3⟩
  have kt1 : (t : Int) < (n : Int) := by omega
  have kt0 : (0 : Int) ≤ (t : Int) := by omega
  obtain ⟨X, hX⟩ : ∃ X, X = w.heap.size := ⟨_, rfl⟩
  have HX := hid hX
  obtain ⟨g, off, rfl, hgz, hct⟩ := ints_cell hB ht
  have HCT := hid hct
  obtain ⟨z, hz'⟩ : ∃ z, z = Y t := ⟨_, rfl⟩
  have HYT := hid (hz t ht).2
  rw [← hz'] at HCT HYT
  by_cases hk0 : 0 ≤ k
  · have hki : k < n := by rw [hn, ← hk]; exact met_in hs (by omega) (by omega) (by omega)
    obtain ⟨k0, rfl⟩ := Int.eq_ofNat_of_zero_le hk0
    have HKN : Hid (k0 < n) := hid (by omega)
    obtain ⟨g', off', he, hgz', hck⟩ := ints_cell hB HKN.out
    obtain ⟨rfl, rfl⟩ : g = g' ∧ off = off' := by simpa using he
    obtain ⟨y, hy'⟩ : ∃ y, y = Y k0 := ⟨_, rfl⟩
    have HYK := hid (hz k0 HKN.out).2
    rw [← hy'] at hck HYK
    have HCK := hid hck
    rw [leave_at hk, ← hz', ← hy'] at hb
    clear hI hB hk hn hct hz hs ht he hz' hgz' hck hy'
    cases ha : lets z s
    · have HA := hid ha
      have HF : Hid (b = false) := hid (by rw [← hb, ha]; rfl)
      clear ha hb
      go_enter Try.func70, Try.ntmps70
      go_wp2_with fail
      refine (meets_to W H ao n cap Z _ n bcap Y HSz.out HN.out (fun i hi => (HZ.out i hi).1) t s HT.out hs0 hs3 k0 HK.out _ HS.out.arms HS.out.ways).mono ?_
      rintro r w2 ⟨rfl, hb2⟩
      have HS2 := hid (HS.out.stays hb2)
      obtain ⟨c0, c1, c2, c3, hz2⟩ := HS2.out.at HX.out
      have ct := ((HS.out.below.trans (hb2.mono HS.out.below.size)).cell (p := ⟨g, off + t, none⟩) hgz).trans HCT.out
      simp only [← hX] at c0 c1 c2 c3 ⊢
      clear hb2 HS hX
      go_wp2_with (go_at_call 74; with_reducible refine (reflets_any z s HYT.out HSS.out false HA.out _).mono ?_; rintro e w' ⟨rfl, rfl⟩)
      go_ret
      exact ⟨ret_bool HF.out.symm, HS2.out.below⟩
    · have HA := hid ha
      have HB : Hid (lets y s = b) := hid (by rw [← hb, ha]; simp)
      clear ha hb
      go_enter Try.func70, Try.ntmps70
      go_wp2_with fail
      refine (meets_to W H ao n cap Z _ n bcap Y HSz.out HN.out (fun i hi => (HZ.out i hi).1) t s HT.out hs0 hs3 k0 HK.out _ HS.out.arms HS.out.ways).mono ?_
      rintro r w2 ⟨rfl, hb2⟩
      have HS2 := hid (HS.out.stays hb2)
      obtain ⟨c0, c1, c2, c3, hz2⟩ := HS2.out.at HX.out
      have ct := ((HS.out.below.trans (hb2.mono HS.out.below.size)).cell (p := ⟨g, off + t, none⟩) hgz).trans HCT.out
      have ck := ((HS.out.below.trans (hb2.mono HS.out.below.size)).cell (p := ⟨g, off + k0, none⟩) hgz).trans HCK.out
      simp only [← hX] at c0 c1 c2 c3 ⊢
      clear hb2 HS hX
      go_wp2_with (first | (go_at_call 74; with_reducible refine (reflets_any z s HYT.out HSS.out true HA.out _).mono ?_; rintro e w' ⟨rfl, rfl⟩) | (go_at_call 74; with_reducible refine (reflets_any y s HYK.out HSS.out b HB.out _).mono ?_; rintro e w' ⟨rfl, rfl⟩))
      go_ret
      exact ⟨rfl, HS2.out.below⟩
  · have HF : Hid (b = false) := hid (by rw [← hb, leave_no (by omega)])
    have hk1 : k < 0 := by omega
    clear hI hB hk hn hct hz hs ht hz' hb hk0
    go_enter Try.func70, Try.ntmps70
    go_wp2_with fail
    refine (meets_to W H ao n cap Z _ n bcap Y HSz.out HN.out (fun i hi => (HZ.out i hi).1) t s HT.out hs0 hs3 k HK.out _ HS.out.arms HS.out.ways).mono ?_
    rintro r w2 ⟨rfl, hb2⟩
    have HS2 := hid (HS.out.stays hb2)
    clear hb2 HS
    go_wp2_with fail
    go_ret
    exact ⟨ret_bool HF.out.symm, HS2.out.below⟩

/-- The boxes that a closure holds: streets, and a tile. -/
structure CB (C D : Nat) (W H : Int) (ao : Option Addr) (n cap : Nat) (Z : Nat → Int) (bo : Option Addr) (m bcap : Nat) (Y : Nat → Int) (t : Int) (w : World) : Prop where
  hC : C < w.heap.size
  hD : D < w.heap.size
  c0 : w.cell? ⟨C, 0, none⟩ = some (.int .i64 W)
  c1 : w.cell? ⟨C, 1, none⟩ = some (.int .i64 H)
  c2 : w.cell? ⟨C, 2, none⟩ = some (.slice ao n cap)
  c3 : w.cell? ⟨C, 3, none⟩ = some (.slice bo m bcap)
  d0 : w.cell? ⟨D, 0, none⟩ = some (.int .i64 t)
  arms : Ints w ao n Z
  ways : Ints w bo m Y
theorem CB.stays {C D : Nat} {W H : Int} {ao bo : Option Addr} {n cap m bcap : Nat} {Z Y : Nat → Int} {t : Int} {w w' : World} (h : CB C D W H ao n cap Z bo m bcap Y t w) (k : Below w.heap.size w w') : CB C D W H ao n cap Z bo m bcap Y t w' :=
  ⟨Nat.lt_of_lt_of_le h.hC k.size, Nat.lt_of_lt_of_le h.hD k.size, (k.cell (p := ⟨C, 0, none⟩) h.hC).trans h.c0, (k.cell (p := ⟨C, 1, none⟩) h.hC).trans h.c1, (k.cell (p := ⟨C, 2, none⟩) h.hC).trans h.c2, (k.cell (p := ⟨C, 3, none⟩) h.hC).trans h.c3,
    (k.cell (p := ⟨D, 0, none⟩) h.hD).trans h.d0, h.arms.stays k, h.ways.stays k⟩

set_option maxHeartbeats 3200000 in
theorem open_to (C D : Nat) (W H : Int) (ao : Option Addr) (n cap : Nat) (Z : Nat → Int) (bo : Option Addr) (bcap : Nat) (Y : Nat → Int) (hs : Sized W H) (hn : (n : Int) = W * H) (hz : ∀ i, i < n → Fine (Z i) (Y i)) (t : Nat) (s : Int) (ht : t < n) (hs0 : 0 ≤ s) (hs3 : s ≤ 3) (b : Bool) (hb : leave W H Z Y t s = b) (w : World) (h : CB C D W H ao n cap Z bo n bcap Y t w) :
    Calls Try.prog 68 #[.int .i64 s, .pointer (some ⟨C, 0, none⟩), .pointer (some ⟨D, 0, none⟩)] w fun r w' => r = .returned (.bool b) ∧ Below w.heap.size w w' := by
  have HS := hid h
  obtain ⟨k, hk⟩ : ∃ k, met W H Z t s = k := ⟨_, rfl⟩
  have HK := hid hk
  have HSz := hid hs
  have HN := hid hn
  have HZ := hid hz
  have HT := hid ht
  have HSS : Hid (0 ≤ s ∧ s ≤ 3) := hid ⟨hs0, hs3⟩
  have kt1 : (t : Int) < (n : Int) := by omega
  have kt0 : (0 : Int) ≤ (t : Int) := by omega
  obtain ⟨hC, hD, c0, c1, c2, c3, d0, _, hB⟩ := h
  obtain ⟨g, off, rfl, hgz, hct⟩ := ints_cell hB ht
  have HCT := hid hct
  obtain ⟨z, hz'⟩ : ∃ z, z = Y t := ⟨_, rfl⟩
  have HYT := hid (hz t ht).2
  rw [← hz'] at HCT HYT
  by_cases hk0 : 0 ≤ k
  · have hki : k < n := by rw [hn, ← hk]; exact met_in hs (by omega) (by omega) (by omega)
    obtain ⟨k0, rfl⟩ := Int.eq_ofNat_of_zero_le hk0
    have HKN : Hid (k0 < n) := hid (by omega)
    obtain ⟨g', off', he, hgz', hck⟩ := ints_cell hB HKN.out
    obtain ⟨rfl, rfl⟩ : g = g' ∧ off = off' := by simpa using he
    obtain ⟨y, hy'⟩ : ∃ y, y = Y k0 := ⟨_, rfl⟩
    have HYK := hid (hz k0 HKN.out).2
    rw [← hy'] at hck HYK
    have HCK := hid hck
    rw [leave_at hk, ← hz', ← hy'] at hb
    have HBT : Hid ((0 : Int) ≤ (k0 : Int)) := hid (by omega)
    clear hB hk hn hct hz hs ht he hz' hgz' hck hy'
    cases ha : lets z s
    · have HA := hid ha
      have HF : Hid (b = false) := hid (by rw [← hb, ha]; rfl)
      clear ha hb
      go_enter Try.func68, Try.ntmps68
      go_wp2_with fail
      refine (join_to W H ao n cap Z _ n bcap Y HSz.out HN.out (fun i hi => (HZ.out i hi).1) t s HT.out hs0 hs3 k0 HK.out _ HS.out.arms HS.out.ways).mono ?_
      rintro r w2 ⟨⟨x, rfl, hx⟩, hb2⟩
      obtain rfl : x = true := hx.2 HBT.out
      have HB2 := hid hb2
      obtain ⟨hC2, hD2, c0, c1, c2, c3, d0, _, _⟩ := HS.out.stays hb2
      have ct := (hb2.cell (p := ⟨g, off + t, none⟩) hgz).trans HCT.out
      clear hb2 HS hx
      go_wp2_with (go_at_call 69; with_reducible refine (lets_any z s HYT.out HSS.out false HA.out _).mono ?_; rintro e w' ⟨rfl, rfl⟩)
      go_ret
      exact ⟨ret_bool HF.out.symm, HB2.out⟩
    · have HA := hid ha
      have HB : Hid (lets y s = b) := hid (by rw [← hb, ha]; simp)
      clear ha hb
      go_enter Try.func68, Try.ntmps68
      go_wp2_with fail
      refine (join_to W H ao n cap Z _ n bcap Y HSz.out HN.out (fun i hi => (HZ.out i hi).1) t s HT.out hs0 hs3 k0 HK.out _ HS.out.arms HS.out.ways).mono ?_
      rintro r w2 ⟨⟨x, rfl, hx⟩, hb2⟩
      obtain rfl : x = true := hx.2 HBT.out
      have HB2 := hid hb2
      obtain ⟨hC2, hD2, c0, c1, c2, c3, d0, _, _⟩ := HS.out.stays hb2
      have ct := (hb2.cell (p := ⟨g, off + t, none⟩) hgz).trans HCT.out
      have ck := (hb2.cell (p := ⟨g, off + k0, none⟩) hgz).trans HCK.out
      clear hb2 HS hx
      go_wp2_with (first | (go_at_call 69; with_reducible refine (lets_any z s HYT.out HSS.out true HA.out _).mono ?_; rintro e w' ⟨rfl, rfl⟩) | (go_at_call 69; with_reducible refine (lets_any y s HYK.out HSS.out b HB.out _).mono ?_; rintro e w' ⟨rfl, rfl⟩))
      go_ret
      exact ⟨rfl, HB2.out⟩
  · have HF : Hid (b = false) := hid (by rw [← hb, leave_no (by omega)])
    have HBT : Hid (¬ 0 ≤ k) := hid hk0
    clear hB hk hn hct hz hs ht hz' hb hk0
    go_enter Try.func68, Try.ntmps68
    go_wp2_with fail
    refine (join_to W H ao n cap Z _ n bcap Y HSz.out HN.out (fun i hi => (HZ.out i hi).1) t s HT.out hs0 hs3 k HK.out _ HS.out.arms HS.out.ways).mono ?_
    rintro r w2 ⟨⟨x, rfl, hx⟩, hb2⟩
    obtain rfl : x = false := by rw [Bool.eq_false_iff]; intro h; have h1 := hx.1 h; have h2 := HBT.out; omega
    have HB2 := hid hb2
    clear hb2 HS hx
    go_wp2_with fail
    go_ret
    exact ⟨ret_bool HF.out.symm, HB2.out⟩
end Go.Proofs.Ytaepiegbpgkciaa
