/-
  The walk of validateSpots of the program: the first error of rails and of a list of spots.
-/
import Derived.Test.YtbfpcolkbfljoaaDoorRWalkSpot
import Derived.Test.YtbfpcolkbfljoaaDoorRWalkPlace
namespace Go.Proofs.YtbfpcolkbfljoaaDoor
open Go.RowKit

/-- The slice at an address holds these spots, k of them. -/
def SpotsAt (w : World) (lo : Option Addr) (k : Nat) (S : Nat → Int × Int × Int) : Prop :=
  ∀ j : Nat, j < k → ∃ b off : Nat, lo = some ⟨b, off, none⟩ ∧ b < w.heap.size ∧ w.cell? ⟨b, off + j * 3, none⟩ = some (.int .i64 (S j).1) ∧ w.cell? ⟨b, off + j * 3 + 1, none⟩ = some (.int .i64 (S j).2.1) ∧ w.cell? ⟨b, off + j * 3 + 2, none⟩ = some (.int .i64 (S j).2.2)
theorem SpotsAt.stays {w w' : World} {lo : Option Addr} {k : Nat} {S : Nat → Int × Int × Int} (h : SpotsAt w lo k S) (hb : Below w.heap.size w w') : SpotsAt w' lo k S := fun j hj => by
  obtain ⟨b, off, e, hz, c0, c1, c2⟩ := h j hj
  exact ⟨b, off, e, by have := hb.size; omega, (hb.cell (p := ⟨b, _, none⟩) hz).trans c0, (hb.cell (p := ⟨b, _, none⟩) hz).trans c1, (hb.cell (p := ⟨b, _, none⟩) hz).trans c2⟩
theorem SpotsAt.lt {w : World} {lo : Option Addr} {k : Nat} {S : Nat → Int × Int × Int} (h : SpotsAt w lo k S) : ∀ a, lo = some a → 0 < k → a.block < w.heap.size := fun a ha hk => by
  obtain ⟨b, off, e, hz, _⟩ := h 0 hk
  rw [ha] at e
  cases e
  exact hz

/-- The first error of a list of spots. -/
def LErrs (n : Nat) (Z : Nat → Int) (k : Nat) (S : Nat → Int × Int × Int) (e : Int) : Prop :=
  (e = 0 ∧ ∀ i, i < k → IsSpot n Z (S i).1 (S i).2.1 (S i).2.2) ∨ (e ≠ 0 ∧ ∃ i, i < k ∧ SErr n Z (S i).1 (S i).2.1 (S i).2.2 e ∧ ∀ j, j < i → IsSpot n Z (S j).1 (S j).2.1 (S j).2.2)
theorem LErrs.ex (n : Nat) (Z : Nat → Int) (S : Nat → Int × Int × Int) : ∀ k, ∃ e, LErrs n Z k S e
  | 0 => ⟨0, .inl ⟨rfl, fun i hi => by omega⟩⟩
  | k + 1 => by
    obtain ⟨e, h⟩ := LErrs.ex n Z S k
    rcases h with ⟨rfl, h⟩ | ⟨he, i, hi, h1, h2⟩
    · obtain ⟨e', h'⟩ := SErr.ex n Z (S k).1 (S k).2.1 (S k).2.2
      by_cases h0 : e' = 0
      · subst h0
        refine ⟨0, .inl ⟨rfl, fun i hi => ?_⟩⟩
        by_cases hk : i < k
        · exact h i hk
        · obtain rfl : i = k := by omega
          rcases h' with ⟨h', _⟩ | ⟨h', _⟩ | ⟨_, h'⟩
          · cases h'
          · cases h'
          · exact h'
      · exact ⟨e', .inr ⟨h0, k, by omega, h', fun j hj => h j hj⟩⟩
    · exact ⟨e, .inr ⟨he, i, by omega, h1, h2⟩⟩
theorem SErr.spot {n : Nat} {Z : Nat → Int} {t p s : Int} (h : SErr n Z t p s 0) : IsSpot n Z t p s := by
  rcases h with ⟨h, _⟩ | ⟨h, _⟩ | ⟨_, h⟩
  · cases h
  · cases h
  · exact h
theorem spot_serr {n : Nat} {Z : Nat → Int} {t p s : Int} (h : IsSpot n Z t p s) : SErr n Z t p s 0 := .inr (.inr ⟨rfl, h⟩)
/-- An error that is met behind right ones is the first one. -/
theorem LErrs.met {n : Nat} {Z : Nat → Int} {k : Nat} {S : Nat → Int × Int × Int} {e e' : Int} {j : Nat} (h : LErrs n Z k S e) (hj : j < k) (hd : ∀ i, i < j → IsSpot n Z (S i).1 (S i).2.1 (S i).2.2) (he : SErr n Z (S j).1 (S j).2.1 (S j).2.2 e') (h0 : e' ≠ 0) : e' = e := by
  rcases h with ⟨rfl, h⟩ | ⟨hn, i, hi, h1, h2⟩
  · exact absurd (he.one (spot_serr (h j hj))) h0
  · by_cases hl : i < j
    · exact absurd (h1.one (spot_serr (hd i hl))) hn
    · by_cases hl' : j < i
      · exact absurd (he.one (spot_serr (h2 j hl'))) h0
      · obtain rfl : i = j := by omega
        exact he.one h1
theorem LErrs.none {n : Nat} {Z : Nat → Int} {k : Nat} {S : Nat → Int × Int × Int} {e : Int} (h : LErrs n Z k S e) (hd : ∀ i, i < k → IsSpot n Z (S i).1 (S i).2.1 (S i).2.2) : 0 = e := by
  rcases h with ⟨rfl, _⟩ | ⟨hn, i, hi, h1, _⟩
  · rfl
  · exact absurd (h1.one (spot_serr (hd i hi))) hn
/-- The first error of rails and a list of spots. -/
def WErrs (W H : Int) (n m : Nat) (Z : Nat → Int) (B : Nat → Bool) (k : Nat) (S : Nat → Int × Int × Int) (e : Int) : Prop := (e = 1 ∧ ¬ Right W H n m Z B) ∨ (Right W H n m Z B ∧ LErrs n Z k S e)
theorem WErrs.ex (W H : Int) (n m : Nat) (Z : Nat → Int) (B : Nat → Bool) (k : Nat) (S : Nat → Int × Int × Int) : ∃ e, WErrs W H n m Z B k S e := by
  by_cases h : Right W H n m Z B
  · obtain ⟨e, he⟩ := LErrs.ex n Z S k
    exact ⟨e, .inr ⟨h, he⟩⟩
  · exact ⟨1, .inl ⟨rfl, h⟩⟩

set_option maxHeartbeats 3200000 in
theorem spots_to (W H : Int) (ao : Option Addr) (n cap : Nat) (Z : Nat → Int) (bo : Option Addr) (m bcap : Nat) (B : Nat → Bool) (hn : n ≤ 9223372036854775807) (hm : m ≤ 9223372036854775807) (lo : Option Addr) (k lcap : Nat) (hk : k ≤ 9223372036854775807) (S : Nat → Int × Int × Int) (e : Int) (h : WErrs W H n m Z B k S e)
    (w : World) (hT : Tab w) (hI : Ints w ao n Z) (hB : Bools w bo m B) (hS : SpotsAt w lo k S) :
    Calls Tryd.prog 108 #[rv W H (.slice ao n cap) (.slice bo m bcap), .slice lo k lcap] w fun r w' => r = .returned (.int .i64 e) ∧ Below w.heap.size w w' := by
  have HR0 := hid (rb_start (Wd := W) (Hd := H) (cap := cap) (bcap := bcap) hT hI hB)
  have HSP := hid hS
  obtain ⟨X, hX⟩ : ∃ X, X = w.heap.size := ⟨_, rfl⟩
  have HX := hid hX
  clear hT hI hB hS
  rcases h with ⟨rfl, hr⟩ | ⟨hr, hl⟩
  · have HV := hid (verr_no hr)
    clear hr
    go_enter Tryd.func108, Tryd.ntmps108
    go_wp2_with fail
    refine (validate_any W H ao n cap Z bo m bcap B hn hm _ HR0.out.ints HR0.out.bools 1 HV.out).mono ?_
    rintro r w1 ⟨rfl, hb1⟩
    have H1 := hid (HR0.out.stays hb1)
    clear hb1
    go_wp2_with fail
    go_ret
    exact ⟨rfl, H1.out.below⟩
  · have HV := hid (verr_ok hr)
    have HL := hid hl
    have HR := hid hr
    clear hr hl
    go_enter Tryd.func108, Tryd.ntmps108
    go_wp2_with fail
    refine (validate_any W H ao n cap Z bo m bcap B hn hm _ HR0.out.ints HR0.out.bools 0 HV.out).mono ?_
    rintro r w1 ⟨rfl, hb1⟩
    have H1 := hid (HR0.out.stays hb1)
    simp only [← hX]
    clear hb1 hX HR0 HV
    go_wp2_with fail
    go_loopw [17] (fun iv wr => ∃ j : Nat, j ≤ k ∧ iv = .int .i64 j ∧ Hid (RB W H ao n cap Z bo m bcap B w wr) ∧ Hid (∀ i, i < j → IsSpot n Z (S i).1 (S i).2.1 (S i).2.2)) (fun iv _ => k - (intOf iv).toNat)
    case atStart => exact ⟨0, Nat.zero_le _, rfl, H1, hid (fun i hi => by omega)⟩
    case round =>
      obtain ⟨j, hj, rfl, hR, hD⟩ := hrel
      clear H1
      by_cases hlt : j < k
      · obtain ⟨b, off, rfl, hbz, q0, q1, q2⟩ := (HSP.out.stays hR.out.below) j hlt
        obtain ⟨⟨t, p, s⟩, hx⟩ : ∃ x, x = S j := ⟨_, rfl⟩
        rw [← hx] at q0 q1 q2
        simp only at q0 q1 q2
        obtain ⟨t', p', s', g, hBI⟩ := BackIs.ex t p s
        have HBI := hid hBI
        have HXX := hid hx
        have HB1 := hid (Joins.below_alloc1 wr (.cells #[.int .i64 t, .int .i64 p, .int .i64 s] 50))
        have HR1 := hid (hR.out.stays HB1.out)
        clear hx hBI
        go_wp2_with fail
        refine (back_to HBI.out _ HR1.out.tab).mono ?_
        rintro r w2 ⟨rfl, hb2⟩
        obtain ⟨hz2, hc2, _⟩ := after hb2
        have u0 := hc2 0
        have u1 := hc2 1
        have u2 := hc2 2
        simp only [List.getElem?_toArray, List.getElem?_cons_zero, List.getElem?_cons_succ] at u0 u1 u2
        have HR2 := hid ((HR1.out.stays hb2).stays (Joins.below_alloc1 w2 (.cells #[.int .i64 t', .int .i64 p', .int .i64 s'] 50)))
        have c0 := (HR1.out.stays hb2).c0
        have c1 := (HR1.out.stays hb2).c1
        have c2 := (HR1.out.stays hb2).c2
        have c3 := (HR1.out.stays hb2).c3
        have hXz := (HR1.out.stays hb2).size
        rw [← HX.out] at c0 c1 c2 c3 hXz
        clear hb2 hc2 q0 q1 q2 HR1 HB1 hbz
        rcases HBI.out with ⟨ho, rfl, rfl, rfl, rfl⟩ | ⟨ho, rfl, rfl, rfl, rfl⟩
        · have HO := hid ho
          clear ho
          obtain ⟨o, hoo⟩ : ∃ o, o = oth p' s := ⟨_, rfl⟩
          rw [← hoo] at HR2 ⊢
          clear hoo
          by_cases hsp : IsSpot n Z t' p' s
          · have HSB := hid hsp
            clear hsp
            go_wp2_with fail
            refine (isSpot_any W H ao n cap Z _ HR.out.sized HR.out.sets (fun i hi => ⟨(HR.out.fine i hi).1, (HR.out.fine i hi).2.1⟩) t' p' s true ⟨fun _ => HSB.out, fun _ => rfl⟩ _ HR2.out.tab HR2.out.ints).mono ?_
            rintro r w3 ⟨rfl, hb3⟩
            have HR3 := hid (HR2.out.stays hb3)
            clear hb3 u0 u1 u2 c0 c1 c2 c3
            go_wp2_with fail
            go_roundw
            case rel =>
              refine ⟨j + 1, by omega, by go_num, HR3, hid (fun i hi => ?_)⟩
              by_cases h : i < j
              · exact hD.out i h
              · obtain rfl : i = j := by omega
                rw [← HXX.out]; exact HSB.out
            case measure => simp [intOf]; omega
          · have HSB := hid hsp
            clear hsp
            go_wp2_with fail
            refine (isSpot_any W H ao n cap Z _ HR.out.sized HR.out.sets (fun i hi => ⟨(HR.out.fine i hi).1, (HR.out.fine i hi).2.1⟩) t' p' s false ⟨fun h => (by cases h), fun h => absurd h HSB.out⟩ _ HR2.out.tab HR2.out.ints).mono ?_
            rintro r w3 ⟨rfl, hb3⟩
            have HR3 := hid (HR2.out.stays hb3)
            clear hb3 u0 u1 u2 c0 c1 c2 c3
            go_wp2_with fail
            go_ret
            refine ⟨ret_int (HL.out.met hlt hD.out ?_ (by decide)), HR3.out.below⟩
            rw [← HXX.out]
            refine .inr (.inl ⟨rfl, HO.out, ?_⟩)
            cases hl : Lie n Z t' p'
            · rfl
            · exact absurd ⟨HO.out, hl⟩ HSB.out
        · have HO := hid ho
          clear ho
          go_wp2_with fail
          go_ret
          refine ⟨ret_int (HL.out.met hlt hD.out ?_ (by decide)), HR2.out.below⟩
          rw [← HXX.out]
          exact .inl ⟨rfl, HO.out⟩
      · obtain rfl : k = j := by omega
        go_wp2_with fail
        go_ret
        exact ⟨ret_int (HL.out.none hD.out), hR.out.below⟩
end Go.Proofs.YtbfpcolkbfljoaaDoor
