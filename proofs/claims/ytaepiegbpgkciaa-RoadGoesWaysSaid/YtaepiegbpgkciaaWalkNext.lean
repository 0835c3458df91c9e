/-
  The walks of Joined and Next, of the program and of the reference.
-/
import Derived.Test.YtaepiegbpgkciaaWalkTile
import Derived.Test.YtaepiegbpgkciaaWalkOut
import Derived.Test.YtaepiegbpgkciaaWalkRVal
namespace Go.Proofs.Ytaepiegbpgkciaa
open Go.RowKit

/-- What Joined tells. -/
def JIs (W H : Int) (n m : Nat) (Z Y : Nat → Int) (t s : Int) (b : Bool) (e : Int) : Prop :=
  AErr (0 ≤ s ∧ s ≤ 3) W H n m Z Y t e ∧ (e ≠ 0 → b = false) ∧ (e = 0 → (b = true ↔ 0 ≤ met W H Z t s))
theorem JIs.ex (W H : Int) (n m : Nat) (Z Y : Nat → Int) (t s : Int) : ∃ b e, JIs W H n m Z Y t s b e := by
  obtain ⟨e, h⟩ := AErr.ex (0 ≤ s ∧ s ≤ 3) W H n m Z Y t
  by_cases he : e = 0
  · exact ⟨decide (0 ≤ met W H Z t s), e, h, fun k => absurd he k, fun _ => by simp⟩
  · exact ⟨false, e, h, fun _ => rfl, fun k => absurd k he⟩
/-- What Next tells. -/
def NIs (W H : Int) (n m : Nat) (Z Y : Nat → Int) (t fr : Int) (L : List Int) (e : Int) : Prop :=
  AErr (-1 ≤ fr ∧ fr ≤ 3) W H n m Z Y t e ∧ (e ≠ 0 → L = []) ∧ (e = 0 → L = outl W H Z Y t fr)
theorem NIs.ex (W H : Int) (n m : Nat) (Z Y : Nat → Int) (t fr : Int) : ∃ L e, NIs W H n m Z Y t fr L e := by
  obtain ⟨e, h⟩ := AErr.ex (-1 ≤ fr ∧ fr ≤ 3) W H n m Z Y t
  by_cases he : e = 0
  · exact ⟨_, e, h, fun k => absurd he k, fun _ => rfl⟩
  · exact ⟨[], e, h, fun _ => rfl, fun k => absurd k he⟩
theorem NIs.len {W H : Int} {n m : Nat} {Z Y : Nat → Int} {t fr : Int} {L : List Int} {e : Int} (h : NIs W H n m Z Y t fr L e) : L.length ≤ 4 := by
  by_cases he : e = 0
  · rw [h.2.2 he]; exact outl_len _ _ _ _ _ _
  · rw [h.2.1 he]; simp
/-- A list of numbers in memory of the call's own, and an error. -/
def Lst2 (L : List Int) (e : Int) (w : World) (r : Ending) (w' : World) : Prop :=
  ∃ ao cap, r = .returned (.tuple #[.slice ao L.length cap, .int .i64 e]) ∧ w'.ownsRow w.heap.size 3 1 (.slice ao L.length cap) L.length (encI L) ∧ Below w.heap.size w w'

set_option maxHeartbeats 3200000 in
theorem joined_to (W H : Int) (ao : Option Addr) (n cap : Nat) (Z : Nat → Int) (bo : Option Addr) (m bcap : Nat) (Y : Nat → Int) (hn : n ≤ 9223372036854775807) (hm : m ≤ 9223372036854775807) (t s : Int) (b : Bool) (e : Int) (h : JIs W H n m Z Y t s b e) (w : World) (hI : Ints w ao n Z) (hB : Ints w bo m Y) :
    Calls Try.prog 29 #[rv W H (.slice ao n cap) (.slice bo m bcap), .int .i64 t, .int .i64 s] w fun r w' => r = .returned (.tuple #[.bool b, .int .i64 e]) ∧ Below w.heap.size w w' := by
  have HS := hid (sb_start (W := W) (H := H) (cap := cap) (bcap := bcap) hI hB)
  obtain ⟨X, hX⟩ : ∃ X, X = w.heap.size := ⟨_, rfl⟩
  have HX := hid hX
  clear hI hB
  obtain ⟨h, hb1, hb2⟩ := h
  rcases h with ⟨he, h⟩ | ⟨rfl, h, hf⟩ | ⟨rfl, h, hf⟩
  · obtain rfl := hb1 he
    have HV := hid h
    have e0 : (e != 0) = true := by simpa using he
    clear h he hb1 hb2
    go_enter Try.func29, Try.ntmps29
    go_wp2_with fail
    refine (tile_to W H ao n cap Z bo m bcap Y hn hm t e HV.out _ HS.out.arms HS.out.ways).mono ?_
    rintro r w1 ⟨rfl, hb1⟩
    have HS1 := hid (HS.out.stays hb1)
    clear hb1
    go_wp2_with fail
    go_ret2
    exact ⟨rfl, HS1.out.below⟩
  · obtain rfl := hb1 (by decide)
    have HV := hid h
    by_cases h0 : s < 0
    · clear h hf hb1 hb2
      go_enter Try.func29, Try.ntmps29
      go_wp2_with fail
      refine (tile_to W H ao n cap Z bo m bcap Y hn hm t 0 HV.out _ HS.out.arms HS.out.ways).mono ?_
      rintro r w1 ⟨rfl, hb1⟩
      have HS1 := hid (HS.out.stays hb1)
      clear hb1
      go_wp2_with fail
      go_ret2
      exact ⟨rfl, HS1.out.below⟩
    · have h1 : 4 ≤ s := by omega
      clear h hf hb1 hb2
      go_enter Try.func29, Try.ntmps29
      go_wp2_with fail
      refine (tile_to W H ao n cap Z bo m bcap Y hn hm t 0 HV.out _ HS.out.arms HS.out.ways).mono ?_
      rintro r w1 ⟨rfl, hb1⟩
      have HS1 := hid (HS.out.stays hb1)
      clear hb1
      go_wp2_with fail
      go_ret2
      exact ⟨rfl, HS1.out.below⟩
  · have HV := hid h
    have HM := hid (hb2 rfl)
    obtain ⟨hR, ht0, ht1⟩ := h.right
    have HR := hid hR
    obtain ⟨f0, f1⟩ := hf
    obtain ⟨t, rfl⟩ := Int.eq_ofNat_of_zero_le ht0
    have HT : Hid (t < n) := hid (by omega)
    clear h hb1 hb2 hR
    go_enter Try.func29, Try.ntmps29
    go_wp2_with fail
    refine (tile_to W H ao n cap Z bo m bcap Y hn hm t 0 HV.out _ HS.out.arms HS.out.ways).mono ?_
    rintro r w1 ⟨rfl, hb1⟩
    have HS1 := hid (HS.out.stays hb1)
    obtain ⟨c0, c1, c2, c3, hz2⟩ := HS1.out.at HX.out
    simp only [← hX] at c0 c1 c2 c3 ⊢
    clear hb1 HS hX
    go_wp2_with fail
    refine (join_to W H ao n cap Z bo m bcap Y HR.out.sized HR.out.args.arms (fun i hi => (HR.out.args.fine i hi).1) t s HT.out f0 f1 _ rfl _ HS1.out.arms HS1.out.ways).mono ?_
    rintro r w2 ⟨⟨x, rfl, hx⟩, hb2⟩
    obtain rfl : x = b := by rw [Bool.eq_iff_iff, hx, HM.out]
    have HS2 := hid (HS1.out.stays hb2)
    clear hb2 hx HM HS1 c0 c1 c2 c3 hz2
    go_wp2_with fail
    go_ret2
    exact ⟨rfl, HS2.out.below⟩

set_option maxHeartbeats 3200000 in
theorem next_to (W H : Int) (ao : Option Addr) (n cap : Nat) (Z : Nat → Int) (bo : Option Addr) (m bcap : Nat) (Y : Nat → Int) (hn : n ≤ 9223372036854775807) (hm : m ≤ 9223372036854775807) (t fr : Int) (L : List Int) (e : Int) (h : NIs W H n m Z Y t fr L e) (w : World) (hI : Ints w ao n Z) (hB : Ints w bo m Y) :
    Calls Try.prog 32 #[rv W H (.slice ao n cap) (.slice bo m bcap), .int .i64 t, .int .i64 fr] w (Lst2 L e w) := by
  have HS := hid (sb_start (W := W) (H := H) (cap := cap) (bcap := bcap) hI hB)
  obtain ⟨X, hX⟩ : ∃ X, X = w.heap.size := ⟨_, rfl⟩
  have HX := hid hX
  clear hI hB
  obtain ⟨h, hb1, hb2⟩ := h
  have HV := hid h
  by_cases he : e = 0
  · subst he
    have HL := hid (hb2 rfl)
    obtain ⟨hR, ⟨ht0, ht1⟩, f0, f1⟩ := h.right
    obtain rfl : n = m := hR.eq
    have HR := hid hR
    obtain ⟨t, rfl⟩ := Int.eq_ofNat_of_zero_le ht0
    have HT : Hid (t < n) := hid (by omega)
    clear h hb1 hb2 hR
    go_enter Try.func32, Try.ntmps32
    go_wp2_with fail
    refine (entry_to W H ao n cap Z bo n bcap Y hn hn t fr 0 HV.out _ HS.out.arms HS.out.ways).mono ?_
    rintro r w1 ⟨rfl, hb1⟩
    have HS1 := hid (HS.out.stays hb1)
    obtain ⟨c0, c1, c2, c3, hz2⟩ := HS1.out.at HX.out
    simp only [← hX] at c0 c1 c2 c3 ⊢
    clear hb1 HS hX
    go_wp2_with fail
    refine (exits_to W H ao n cap Z bo bcap Y HR.out.sized HR.out.args.arms HR.out.args.fine t fr HT.out f1 _ HS1.out.arms HS1.out.ways).mono ?_
    rintro r w2 ⟨al, cl, rfl, hrow, hb2⟩
    rw [← HL.out] at hrow ⊢
    have HS2 := hid (HS1.out.stays hb2)
    have HROW := hid hrow
    have HZ := hid HS1.out.below.size
    clear hb2 hrow HL HS1 c0 c1 c2 c3 hz2
    go_wp2_with fail
    go_ret2
    exact ⟨al, cl, rfl, row_mono HROW.out HZ.out, HS2.out.below⟩
  · obtain rfl := hb1 he
    have e0 : (e != 0) = true := by simpa using he
    clear h he hb1 hb2
    go_enter Try.func32, Try.ntmps32
    go_wp2_with fail
    refine (entry_to W H ao n cap Z bo m bcap Y hn hm t fr e HV.out _ HS.out.arms HS.out.ways).mono ?_
    rintro r w1 ⟨rfl, hb1⟩
    have HS1 := hid (HS.out.stays hb1)
    clear hb1
    go_wp2_with fail
    go_ret2
    exact ⟨none, 0, rfl, World.ownsRow_nil _ _ _ _, HS1.out.below⟩

set_option maxHeartbeats 3200000 in
theorem refjoined_to (W H : Int) (ao : Option Addr) (n cap : Nat) (Z : Nat → Int) (bo : Option Addr) (m bcap : Nat) (Y : Nat → Int) (hn : n ≤ 9223372036854775807) (hm : m ≤ 9223372036854775807) (t s : Int) (b : Bool) (e : Int) (h : JIs W H n m Z Y t s b e) (w : World) (hI : Ints w ao n Z) (hB : Ints w bo m Y) :
    Calls Try.prog 30 #[rv W H (.slice ao n cap) (.slice bo m bcap), .int .i64 t, .int .i64 s] w fun r w' => r = .returned (.tuple #[.bool b, .int .i64 e]) ∧ Below w.heap.size w w' := by
  have HS := hid (sb_start (W := W) (H := H) (cap := cap) (bcap := bcap) hI hB)
  obtain ⟨X, hX⟩ : ∃ X, X = w.heap.size := ⟨_, rfl⟩
  have HX := hid hX
  clear hI hB
  obtain ⟨h, hb1, hb2⟩ := h
  rcases h with ⟨he, h⟩ | ⟨rfl, h, hf⟩ | ⟨rfl, h, hf⟩
  · obtain rfl := hb1 he
    clear hb1 hb2
    rcases h with ⟨_, h⟩ | ⟨rfl, hr, ht⟩ | ⟨rfl, _, _⟩
    · have HV := hid h
      have e0 : (e != 0) = true := by simpa using he
      clear h he
      go_enter Try.func30, Try.ntmps30
      go_wp2_with fail
      refine (refvalidate_any W H ao n cap Z bo m bcap Y hn hm _ HS.out.arms HS.out.ways e HV.out).mono ?_
      rintro r w1 ⟨rfl, hb1⟩
      have HS1 := hid (HS.out.stays hb1)
      clear hb1
      go_wp2_with fail
      go_ret2
      exact ⟨rfl, HS1.out.below⟩
    · have HV := hid (verr_ok hr)
      have hbd := hr.sized.bound
      have hWH : W * H = n := hr.args.arms.symm
      obtain ⟨⟨w1, w2⟩, w3, w4⟩ := hr.sized
      obtain ⟨q1, q2⟩ := hbd
      by_cases h0 : t < 0
      · clear hr ht he
        go_enter Try.func30, Try.ntmps30
        go_wp2_with fail
        refine (refvalidate_any W H ao n cap Z bo m bcap Y hn hm _ HS.out.arms HS.out.ways 0 HV.out).mono ?_
        rintro r w1 ⟨rfl, hb1⟩
        have HS1 := hid (HS.out.stays hb1)
        clear hb1
        go_wp2_with fail
        go_ret2
        exact ⟨rfl, HS1.out.below⟩
      · have h1 : W * H ≤ t := by omega
        clear hr ht he
        go_enter Try.func30, Try.ntmps30
        go_wp2_with fail
        refine (refvalidate_any W H ao n cap Z bo m bcap Y hn hm _ HS.out.arms HS.out.ways 0 HV.out).mono ?_
        rintro r w1 ⟨rfl, hb1⟩
        have HS1 := hid (HS.out.stays hb1)
        obtain ⟨c0, c1, c2, c3, hz2⟩ := HS1.out.at HX.out
        simp only [← hX] at c0 c1 c2 c3 ⊢
        clear hb1 HS hX
        go_wp2_with fail
        go_ret2
        exact ⟨rfl, HS1.out.below⟩
    · exact absurd rfl he
  all_goals
    obtain ⟨hR, ht0, ht1⟩ := h.right
    have HV := hid (verr_ok hR)
    have hbd := hR.sized.bound
    have hWH : W * H = n := hR.args.arms.symm
    obtain ⟨⟨w1, w2⟩, w3, w4⟩ := hR.sized
    obtain ⟨q1, q2⟩ := hbd
    have ht2 : t < W * H := by omega
    have HR := hid hR
  · obtain rfl := hb1 (by decide)
    by_cases h0 : s < 0
    · clear h hf hb1 hb2 hR
      go_enter Try.func30, Try.ntmps30
      go_wp2_with fail
      refine (refvalidate_any W H ao n cap Z bo m bcap Y hn hm _ HS.out.arms HS.out.ways 0 HV.out).mono ?_
      rintro r w1 ⟨rfl, hb1⟩
      have HS1 := hid (HS.out.stays hb1)
      obtain ⟨c0, c1, c2, c3, hz2⟩ := HS1.out.at HX.out
      simp only [← hX] at c0 c1 c2 c3 ⊢
      clear hb1 HS hX
      go_wp2_with fail
      go_ret2
      exact ⟨rfl, HS1.out.below⟩
    · have h1 : 4 ≤ s := by omega
      clear h hf hb1 hb2 hR
      go_enter Try.func30, Try.ntmps30
      go_wp2_with fail
      refine (refvalidate_any W H ao n cap Z bo m bcap Y hn hm _ HS.out.arms HS.out.ways 0 HV.out).mono ?_
      rintro r w1 ⟨rfl, hb1⟩
      have HS1 := hid (HS.out.stays hb1)
      obtain ⟨c0, c1, c2, c3, hz2⟩ := HS1.out.at HX.out
      simp only [← hX] at c0 c1 c2 c3 ⊢
      clear hb1 HS hX
      go_wp2_with fail
      go_ret2
      exact ⟨rfl, HS1.out.below⟩
  · have HM := hid (hb2 rfl)
    obtain ⟨f0, f1⟩ := hf
    obtain ⟨t, rfl⟩ := Int.eq_ofNat_of_zero_le ht0
    have HT : Hid (t < n) := hid (by omega)
    obtain ⟨k, hk⟩ : ∃ k, met W H Z t s = k := ⟨_, rfl⟩
    rw [hk] at HM
    have HK := hid hk
    clear h hb1 hb2 hR hk
    go_enter Try.func30, Try.ntmps30
    go_wp2_with fail
    refine (refvalidate_any W H ao n cap Z bo m bcap Y hn hm _ HS.out.arms HS.out.ways 0 HV.out).mono ?_
    rintro r w1 ⟨rfl, hb1⟩
    have HS1 := hid (HS.out.stays hb1)
    obtain ⟨c0, c1, c2, c3, hz2⟩ := HS1.out.at HX.out
    simp only [← hX] at c0 c1 c2 c3 ⊢
    clear hb1 HS hX
    go_wp2_with fail
    refine (meets_to W H ao n cap Z bo m bcap Y HR.out.sized HR.out.args.arms (fun i hi => (HR.out.args.fine i hi).1) t s HT.out f0 f1 k HK.out _ HS1.out.arms HS1.out.ways).mono ?_
    rintro r w2 ⟨rfl, hb2⟩
    have HS2 := hid (HS1.out.stays hb2)
    clear hb2 HS1 c0 c1 c2 c3 hz2
    go_wp2_with fail
    go_ret2
    refine ⟨?_, HS2.out.below⟩
    have : decide (0 ≤ k) = b := by rw [Bool.eq_iff_iff, HM.out]; simp
    rw [← this]; rfl

set_option maxHeartbeats 3200000 in
theorem refnext_to (W H : Int) (ao : Option Addr) (n cap : Nat) (Z : Nat → Int) (bo : Option Addr) (m bcap : Nat) (Y : Nat → Int) (hn : n ≤ 9223372036854775807) (hm : m ≤ 9223372036854775807) (t fr : Int) (L : List Int) (e : Int) (h : NIs W H n m Z Y t fr L e) (w : World) (hI : Ints w ao n Z) (hB : Ints w bo m Y) :
    Calls Try.prog 33 #[rv W H (.slice ao n cap) (.slice bo m bcap), .int .i64 t, .int .i64 fr] w (Lst2 L e w) := by
  have HS := hid (sb_start (W := W) (H := H) (cap := cap) (bcap := bcap) hI hB)
  obtain ⟨X, hX⟩ : ∃ X, X = w.heap.size := ⟨_, rfl⟩
  have HX := hid hX
  clear hI hB
  obtain ⟨h, hb1, hb2⟩ := h
  rcases h with ⟨he, h⟩ | ⟨rfl, h, hf⟩ | ⟨rfl, h, hf⟩
  · obtain rfl := hb1 he
    clear hb1 hb2
    rcases h with ⟨_, h⟩ | ⟨rfl, hr, ht⟩ | ⟨rfl, _, _⟩
    · have HV := hid h
      have e0 : (e != 0) = true := by simpa using he
      clear h he
      go_enter Try.func33, Try.ntmps33
      go_wp2_with fail
      refine (refvalidate_any W H ao n cap Z bo m bcap Y hn hm _ HS.out.arms HS.out.ways e HV.out).mono ?_
      rintro r w1 ⟨rfl, hb1⟩
      have HS1 := hid (HS.out.stays hb1)
      clear hb1
      go_wp2_with fail
      go_ret2
      exact ⟨none, 0, rfl, World.ownsRow_nil _ _ _ _, HS1.out.below⟩
    · have HV := hid (verr_ok hr)
      have hbd := hr.sized.bound
      have hWH : W * H = n := hr.args.arms.symm
      obtain ⟨⟨w1, w2⟩, w3, w4⟩ := hr.sized
      obtain ⟨q1, q2⟩ := hbd
      by_cases h0 : t < 0
      · clear hr ht he
        go_enter Try.func33, Try.ntmps33
        go_wp2_with fail
        refine (refvalidate_any W H ao n cap Z bo m bcap Y hn hm _ HS.out.arms HS.out.ways 0 HV.out).mono ?_
        rintro r w1 ⟨rfl, hb1⟩
        have HS1 := hid (HS.out.stays hb1)
        clear hb1
        go_wp2_with fail
        go_ret2
        exact ⟨none, 0, rfl, World.ownsRow_nil _ _ _ _, HS1.out.below⟩
      · have h1 : W * H ≤ t := by omega
        clear hr ht he
        go_enter Try.func33, Try.ntmps33
        go_wp2_with fail
        refine (refvalidate_any W H ao n cap Z bo m bcap Y hn hm _ HS.out.arms HS.out.ways 0 HV.out).mono ?_
        rintro r w1 ⟨rfl, hb1⟩
        have HS1 := hid (HS.out.stays hb1)
        obtain ⟨c0, c1, c2, c3, hz2⟩ := HS1.out.at HX.out
        simp only [← hX] at c0 c1 c2 c3 ⊢
        clear hb1 HS hX
        go_wp2_with fail
        go_ret2
        exact ⟨none, 0, rfl, World.ownsRow_nil _ _ _ _, HS1.out.below⟩
    · exact absurd rfl he
  all_goals
    obtain ⟨hR, ht0, ht1⟩ := h.right
    have HV := hid (verr_ok hR)
    have hbd := hR.sized.bound
    have hWH : W * H = n := hR.args.arms.symm
    obtain ⟨⟨w1, w2⟩, w3, w4⟩ := hR.sized
    obtain ⟨q1, q2⟩ := hbd
    have ht2 : t < W * H := by omega
    have HR := hid hR
  · obtain rfl := hb1 (by decide)
    by_cases h0 : fr < -1
    · clear h hf hb1 hb2 hR
      go_enter Try.func33, Try.ntmps33
      go_wp2_with fail
      refine (refvalidate_any W H ao n cap Z bo m bcap Y hn hm _ HS.out.arms HS.out.ways 0 HV.out).mono ?_
      rintro r w1 ⟨rfl, hb1⟩
      have HS1 := hid (HS.out.stays hb1)
      obtain ⟨c0, c1, c2, c3, hz2⟩ := HS1.out.at HX.out
      simp only [← hX] at c0 c1 c2 c3 ⊢
      clear hb1 HS hX
      go_wp2_with fail
      go_ret2
      exact ⟨none, 0, rfl, World.ownsRow_nil _ _ _ _, HS1.out.below⟩
    · have h1 : 4 ≤ fr := by omega
      clear h hf hb1 hb2 hR
      go_enter Try.func33, Try.ntmps33
      go_wp2_with fail
      refine (refvalidate_any W H ao n cap Z bo m bcap Y hn hm _ HS.out.arms HS.out.ways 0 HV.out).mono ?_
      rintro r w1 ⟨rfl, hb1⟩
      have HS1 := hid (HS.out.stays hb1)
      obtain ⟨c0, c1, c2, c3, hz2⟩ := HS1.out.at HX.out
      simp only [← hX] at c0 c1 c2 c3 ⊢
      clear hb1 HS hX
      go_wp2_with fail
      go_ret2
      exact ⟨none, 0, rfl, World.ownsRow_nil _ _ _ _, HS1.out.below⟩
  · have HL := hid (hb2 rfl)
    obtain ⟨f0, f1⟩ := hf
    obtain rfl : n = m := hR.eq
    obtain ⟨t, rfl⟩ := Int.eq_ofNat_of_zero_le ht0
    have HT : Hid (t < n) := hid (by omega)
    clear h hb1 hb2 hR
    go_enter Try.func33, Try.ntmps33
    go_wp2_with fail
    refine (refvalidate_any W H ao n cap Z bo n bcap Y hn hn _ HS.out.arms HS.out.ways 0 HV.out).mono ?_
    rintro r w1 ⟨rfl, hb1⟩
    have HS1 := hid (HS.out.stays hb1)
    obtain ⟨c0, c1, c2, c3, hz2⟩ := HS1.out.at HX.out
    simp only [← hX] at c0 c1 c2 c3 ⊢
    clear hb1 HS hX
    go_wp2_with fail
    refine (out_to W H ao n cap Z bo bcap Y HR.out.sized HR.out.args.arms HR.out.args.fine t fr HT.out f1 _ HS1.out.arms HS1.out.ways).mono ?_
    rintro r w2 ⟨al, cl, rfl, hrow, hb2⟩
    rw [← HL.out] at hrow ⊢
    have HS2 := hid (HS1.out.stays hb2)
    have HROW := hid hrow
    have HZ := hid HS1.out.below.size
    clear hb2 hrow HL HS1 c0 c1 c2 c3 hz2
    go_wp2_with fail
    go_ret2
    exact ⟨al, cl, rfl, row_mono HROW.out HZ.out, HS2.out.below⟩
end Go.Proofs.Ytaepiegbpgkciaa
