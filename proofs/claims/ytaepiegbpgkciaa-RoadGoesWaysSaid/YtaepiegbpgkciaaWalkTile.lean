/-
  The walks of validateTile, validateEntry and validateWork of the program; the errors of tiles and of what is asked of them.
-/
import Derived.Test.YtaepiegbpgkciaaMem
namespace Go.Proofs.Ytaepiegbpgkciaa
open Go.RowKit

/-- The error of a tile: streets that are wrong, no such tile. -/
def TErr (W H : Int) (n m : Nat) (Z Y : Nat → Int) (t e : Int) : Prop :=
  (e ≠ 0 ∧ VErr W H n m Z Y e) ∨ (e = 2 ∧ Right W H n m Z Y ∧ ¬ (0 ≤ t ∧ t < n)) ∨ (e = 0 ∧ Right W H n m Z Y ∧ 0 ≤ t ∧ t < n)
/-- Then that of an argument. -/
def AErr (ok : Prop) (W H : Int) (n m : Nat) (Z Y : Nat → Int) (t e : Int) : Prop :=
  (e ≠ 0 ∧ TErr W H n m Z Y t e) ∨ (e = 1 ∧ TErr W H n m Z Y t 0 ∧ ¬ ok) ∨ (e = 0 ∧ TErr W H n m Z Y t 0 ∧ ok)
section
variable {W H : Int} {n m : Nat} {Z Y : Nat → Int} {t e : Int} {ok : Prop}
theorem TErr.ex (W H : Int) (n m : Nat) (Z Y : Nat → Int) (t : Int) : ∃ e, TErr W H n m Z Y t e := by
  obtain ⟨e, h⟩ := VErr.ex W H n m Z Y
  by_cases he : e = 0
  · subst he
    have hR : Right W H n m Z Y := by
      rcases h with ⟨_, h⟩ | ⟨h, _⟩ | ⟨h, _⟩
      · exact h
      · cases h
      · cases h
    by_cases ht : 0 ≤ t ∧ t < n
    · exact ⟨0, .inr (.inr ⟨rfl, hR, ht⟩)⟩
    · exact ⟨2, .inr (.inl ⟨rfl, hR, ht⟩)⟩
  · exact ⟨e, .inl ⟨he, h⟩⟩
theorem AErr.ex (ok : Prop) (W H : Int) (n m : Nat) (Z Y : Nat → Int) (t : Int) : ∃ e, AErr ok W H n m Z Y t e := by
  obtain ⟨e, h⟩ := TErr.ex W H n m Z Y t
  by_cases he : e = 0
  · subst he
    by_cases k : ok
    · exact ⟨0, .inr (.inr ⟨rfl, h, k⟩)⟩
    · exact ⟨1, .inr (.inl ⟨rfl, h, k⟩)⟩
  · exact ⟨e, .inl ⟨he, h⟩⟩
theorem TErr.right (h : TErr W H n m Z Y t 0) : Right W H n m Z Y ∧ 0 ≤ t ∧ t < n := by
  rcases h with ⟨h, _⟩ | ⟨h, _⟩ | ⟨_, h⟩
  · exact absurd rfl h
  · cases h
  · exact h
theorem AErr.right (h : AErr ok W H n m Z Y t 0) : Right W H n m Z Y ∧ (0 ≤ t ∧ t < n) ∧ ok := by
  rcases h with ⟨h, _⟩ | ⟨h, _⟩ | ⟨_, h, k⟩
  · exact absurd rfl h
  · cases h
  · exact ⟨h.right.1, h.right.2, k⟩
theorem TErr.bd (h : TErr W H n m Z Y t e) : e = 0 ∨ e = 1 ∨ e = 2 ∨ e = 9 := by
  rcases h with ⟨_, h⟩ | ⟨h, _⟩ | ⟨h, _⟩
  · have := h.bd; omega
  · omega
  · omega
theorem AErr.bd (h : AErr ok W H n m Z Y t e) : e = 0 ∨ e = 1 ∨ e = 2 ∨ e = 9 := by
  rcases h with ⟨_, h⟩ | ⟨h, _⟩ | ⟨h, _⟩
  · exact h.bd
  · omega
  · omega
theorem terr_ok (h : Right W H n m Z Y) (ht : 0 ≤ t ∧ t < n) : TErr W H n m Z Y t 0 := .inr (.inr ⟨rfl, h, ht⟩)
end

set_option maxHeartbeats 1600000 in
theorem tile_to (W H : Int) (ao : Option Addr) (n cap : Nat) (Z : Nat → Int) (bo : Option Addr) (m bcap : Nat) (Y : Nat → Int) (hn : n ≤ 9223372036854775807) (hm : m ≤ 9223372036854775807) (t e : Int) (h : TErr W H n m Z Y t e) (w : World) (hI : Ints w ao n Z) (hB : Ints w bo m Y) :
    Calls Try.prog 52 #[rv W H (.slice ao n cap) (.slice bo m bcap), .int .i64 t] w fun r w' => r = .returned (.int .i64 e) ∧ Below w.heap.size w w' := by
  have HS := hid (sb_start (W := W) (H := H) (cap := cap) (bcap := bcap) hI hB)
  obtain ⟨X, hX⟩ : ∃ X, X = w.heap.size := ⟨_, rfl⟩
  have HX := hid hX
  clear hI hB
  rcases h with ⟨he, h⟩ | ⟨rfl, hr, ht⟩ | ⟨rfl, hr, ht⟩
  · have HV := hid h
    have e0 : (e != 0) = true := by simpa using he
    clear h he
    go_enter Try.func52, Try.ntmps52
    go_wp2_with fail
    refine (validate_any W H ao n cap Z bo m bcap Y hn hm _ HS.out.arms HS.out.ways e HV.out).mono ?_
    rintro r w1 ⟨rfl, hb1⟩
    have HS1 := hid (HS.out.stays hb1)
    clear hb1
    go_wp2_with fail
    go_ret
    exact ⟨rfl, HS1.out.below⟩
  · have HV := hid (verr_ok hr)
    have hbd := hr.sized.bound
    have hWH : W * H = n := hr.args.arms.symm
    have hs := hr.sized
    obtain ⟨⟨w1, w2⟩, w3, w4⟩ := hs
    obtain ⟨q1, q2⟩ := hbd
    by_cases h0 : t < 0
    · clear hr ht
      go_enter Try.func52, Try.ntmps52
      go_wp2_with fail
      refine (validate_any W H ao n cap Z bo m bcap Y hn hm _ HS.out.arms HS.out.ways 0 HV.out).mono ?_
      rintro r w1 ⟨rfl, hb1⟩
      have HS1 := hid (HS.out.stays hb1)
      clear hb1
      go_wp2_with fail
      go_ret
      exact ⟨rfl, HS1.out.below⟩
    · have h1 : W * H ≤ t := by omega
      clear hr ht
      go_enter Try.func52, Try.ntmps52
      go_wp2_with fail
      refine (validate_any W H ao n cap Z bo m bcap Y hn hm _ HS.out.arms HS.out.ways 0 HV.out).mono ?_
      rintro r w1 ⟨rfl, hb1⟩
      have HS1 := hid (HS.out.stays hb1)
      obtain ⟨c0, c1, c2, c3, hz2⟩ := HS1.out.at HX.out
      simp only [← hX] at c0 c1 c2 c3 ⊢
      clear hb1 HS hX
      go_wp2_with fail
      go_ret
      exact ⟨rfl, HS1.out.below⟩
  · have HV := hid (verr_ok hr)
    have hbd := hr.sized.bound
    have hWH : W * H = n := hr.args.arms.symm
    have hs := hr.sized
    obtain ⟨⟨w1, w2⟩, w3, w4⟩ := hs
    obtain ⟨q1, q2⟩ := hbd
    obtain ⟨h0, h1⟩ := ht
    have h2 : t < W * H := by omega
    clear hr
    go_enter Try.func52, Try.ntmps52
    go_wp2_with fail
    refine (validate_any W H ao n cap Z bo m bcap Y hn hm _ HS.out.arms HS.out.ways 0 HV.out).mono ?_
    rintro r w1 ⟨rfl, hb1⟩
    have HS1 := hid (HS.out.stays hb1)
    obtain ⟨c0, c1, c2, c3, hz2⟩ := HS1.out.at HX.out
    simp only [← hX] at c0 c1 c2 c3 ⊢
    clear hb1 HS hX
    go_wp2_with fail
    go_ret
    exact ⟨rfl, HS1.out.below⟩

set_option maxHeartbeats 1600000 in
theorem entry_to (W H : Int) (ao : Option Addr) (n cap : Nat) (Z : Nat → Int) (bo : Option Addr) (m bcap : Nat) (Y : Nat → Int) (hn : n ≤ 9223372036854775807) (hm : m ≤ 9223372036854775807) (t fr e : Int) (h : AErr (-1 ≤ fr ∧ fr ≤ 3) W H n m Z Y t e) (w : World) (hI : Ints w ao n Z) (hB : Ints w bo m Y) :
    Calls Try.prog 56 #[rv W H (.slice ao n cap) (.slice bo m bcap), .int .i64 t, .int .i64 fr] w fun r w' => r = .returned (.int .i64 e) ∧ Below w.heap.size w w' := by
  have HS := hid (sb_start (W := W) (H := H) (cap := cap) (bcap := bcap) hI hB)
  clear hI hB
  rcases h with ⟨he, h⟩ | ⟨rfl, h, hf⟩ | ⟨rfl, h, hf⟩
  · have HV := hid h
    have e0 : (e != 0) = true := by simpa using he
    clear h he
    go_enter Try.func56, Try.ntmps56
    go_wp2_with fail
    refine (tile_to W H ao n cap Z bo m bcap Y hn hm t e HV.out _ HS.out.arms HS.out.ways).mono ?_
    rintro r w1 ⟨rfl, hb1⟩
    have HS1 := hid (HS.out.stays hb1)
    clear hb1
    go_wp2_with fail
    go_ret
    exact ⟨rfl, HS1.out.below⟩
  · have HV := hid h
    by_cases h0 : fr < -1
    · clear h hf
      go_enter Try.func56, Try.ntmps56
      go_wp2_with fail
      refine (tile_to W H ao n cap Z bo m bcap Y hn hm t 0 HV.out _ HS.out.arms HS.out.ways).mono ?_
      rintro r w1 ⟨rfl, hb1⟩
      have HS1 := hid (HS.out.stays hb1)
      clear hb1
      go_wp2_with fail
      go_ret
      exact ⟨rfl, HS1.out.below⟩
    · have h1 : 4 ≤ fr := by omega
      clear h hf
      go_enter Try.func56, Try.ntmps56
      go_wp2_with fail
      refine (tile_to W H ao n cap Z bo m bcap Y hn hm t 0 HV.out _ HS.out.arms HS.out.ways).mono ?_
      rintro r w1 ⟨rfl, hb1⟩
      have HS1 := hid (HS.out.stays hb1)
      clear hb1
      go_wp2_with fail
      go_ret
      exact ⟨rfl, HS1.out.below⟩
  · have HV := hid h
    obtain ⟨f0, f1⟩ := hf
    clear h
    go_enter Try.func56, Try.ntmps56
    go_wp2_with fail
    refine (tile_to W H ao n cap Z bo m bcap Y hn hm t 0 HV.out _ HS.out.arms HS.out.ways).mono ?_
    rintro r w1 ⟨rfl, hb1⟩
    have HS1 := hid (HS.out.stays hb1)
    clear hb1
    go_wp2_with fail
    go_ret
    exact ⟨rfl, HS1.out.below⟩
set_option maxHeartbeats 1600000 in
theorem work_to (W H : Int) (ao : Option Addr) (n cap : Nat) (Z : Nat → Int) (bo : Option Addr) (m bcap : Nat) (Y : Nat → Int) (hn : n ≤ 9223372036854775807) (hm : m ≤ 9223372036854775807) (t a e : Int) (h : AErr (0 ≤ a ∧ a ≤ 15) W H n m Z Y t e) (w : World) (hI : Ints w ao n Z) (hB : Ints w bo m Y) :
    Calls Try.prog 46 #[rv W H (.slice ao n cap) (.slice bo m bcap), .int .i64 t, .int .i64 a] w fun r w' => r = .returned (.int .i64 e) ∧ Below w.heap.size w w' := by
  have HS := hid (sb_start (W := W) (H := H) (cap := cap) (bcap := bcap) hI hB)
  clear hI hB
  rcases h with ⟨he, h⟩ | ⟨rfl, h, hf⟩ | ⟨rfl, h, hf⟩
  · have HV := hid h
    have e0 : (e != 0) = true := by simpa using he
    clear h he
    go_enter Try.func46, Try.ntmps46
    go_wp2_with fail
    refine (tile_to W H ao n cap Z bo m bcap Y hn hm t e HV.out _ HS.out.arms HS.out.ways).mono ?_
    rintro r w1 ⟨rfl, hb1⟩
    have HS1 := hid (HS.out.stays hb1)
    clear hb1
    go_wp2_with fail
    go_ret
    exact ⟨rfl, HS1.out.below⟩
  · have HV := hid h
    have HF := hid hf
    clear h hf
    go_enter Try.func46, Try.ntmps46
    go_wp2_with fail
    refine (tile_to W H ao n cap Z bo m bcap Y hn hm t 0 HV.out _ HS.out.arms HS.out.ways).mono ?_
    rintro r w1 ⟨rfl, hb1⟩
    have HS1 := hid (HS.out.stays hb1)
    clear hb1
    go_wp2_with (go_at_call 39; refine (isArms_no HF.out _).mono ?_; rintro e w' ⟨rfl, rfl⟩)
    go_ret
    exact ⟨rfl, HS1.out.below⟩
  · have HV := hid h
    have HF := hid hf
    clear h hf
    go_enter Try.func46, Try.ntmps46
    go_wp2_with fail
    refine (tile_to W H ao n cap Z bo m bcap Y hn hm t 0 HV.out _ HS.out.arms HS.out.ways).mono ?_
    rintro r w1 ⟨rfl, hb1⟩
    have HS1 := hid (HS.out.stays hb1)
    clear hb1
    go_wp2_with (go_at_call 39; refine (isArms_yes HF.out _).mono ?_; rintro e w' ⟨rfl, rfl⟩)
    go_ret
    exact ⟨rfl, HS1.out.below⟩
end Go.Proofs.Ytaepiegbpgkciaa
