/-
  The walks of Go, of the program and of the reference.
-/
import Derived.Test.YtaepiegbpgkciaaWalkNext
import Derived.Test.YtaepiegbpgkciaaDrive
namespace Go.Proofs.Ytaepiegbpgkciaa
open Go.RowKit

/-- What Go gives. -/
def GIs (W H : Int) (n m : Nat) (Z Y : Nat → Int) (t fr : Int) (T : Nat → Int) (q : Nat) (D : List Int) (e : Int) : Prop :=
  (e ≠ 0 ∧ (AErr (-1 ≤ fr ∧ fr ≤ 3) W H n m Z Y t e ∨ (e = 4 ∧ AErr (-1 ≤ fr ∧ fr ≤ 3) W H n m Z Y t 0 ∧ 1000 < q)) ∧ D = []) ∨
  (e = 0 ∧ AErr (-1 ≤ fr ∧ fr ≤ 3) W H n m Z Y t 0 ∧ q ≤ 1000 ∧ D = t :: rest W H Z Y T q 0 t fr)
theorem GIs.ex (W H : Int) (n m : Nat) (Z Y : Nat → Int) (t fr : Int) (T : Nat → Int) (q : Nat) : ∃ D e, GIs W H n m Z Y t fr T q D e := by
  obtain ⟨e, h⟩ := AErr.ex (-1 ≤ fr ∧ fr ≤ 3) W H n m Z Y t
  by_cases he : e = 0
  · subst he
    by_cases hq : q ≤ 1000
    · exact ⟨_, 0, .inr ⟨rfl, h, hq, rfl⟩⟩
    · exact ⟨_, 4, .inl ⟨by decide, .inr ⟨rfl, h, by omega⟩, rfl⟩⟩
  · exact ⟨_, e, .inl ⟨he, .inl h, rfl⟩⟩
theorem GIs.len {W H : Int} {n m : Nat} {Z Y : Nat → Int} {t fr : Int} {T : Nat → Int} {q : Nat} {D : List Int} {e : Int} (h : GIs W H n m Z Y t fr T q D e) : D.length ≤ 1001 := by
  rcases h with ⟨_, _, rfl⟩ | ⟨_, _, hq, rfl⟩
  · simp
  · have := rest_len W H Z Y T q 0 t fr; simp; omega

set_option maxHeartbeats 6400000 in
theorem drive_to (W H : Int) (ao : Option Addr) (n cap : Nat) (Z : Nat → Int) (bo : Option Addr) (m bcap : Nat) (Y : Nat → Int) (hn : n ≤ 9223372036854775807) (hm : m ≤ 9223372036854775807) (t fr : Int) (co : Option Addr) (q ccap : Nat) (T : Nat → Int) (hq : q ≤ 9223372036854775807) {D : List Int} {e : Int}
    (h : GIs W H n m Z Y t fr T q D e) (w : World) (hI : Ints w ao n Z) (hB : Ints w bo m Y) (hT : Ints w co q T) :
    Calls Try.prog 36 #[rv W H (.slice ao n cap) (.slice bo m bcap), .int .i64 t, .int .i64 fr, .slice co q ccap] w (Lst2 D e w) := by
  have HS := hid (sb_start (W := W) (H := H) (cap := cap) (bcap := bcap) hI hB)
  rcases h with ⟨he, h, rfl⟩ | ⟨rfl, h, hq1, rfl⟩
  · rcases h with h | ⟨rfl, h, hq1⟩
    · have HV := hid h
      have e0 : (e != 0) = true := by simpa using he
      clear hI hB hT h he
      go_enter Try.func36, Try.ntmps36
      go_wp2_with fail
      refine (entry_to W H ao n cap Z bo m bcap Y hn hm t fr e HV.out _ HS.out.arms HS.out.ways).mono ?_
      rintro r w1 ⟨rfl, hb1⟩
      have HS1 := hid (HS.out.stays hb1)
      clear hb1
      go_wp2_with fail
      go_ret2
      exact ⟨none, 0, rfl, World.ownsRow_nil _ _ _ _, HS1.out.below⟩
    · have HV := hid h
      have q1 : (1000 : Int) < (q : Int) := by omega
      clear hI hB hT h he hq1
      go_enter Try.func36, Try.ntmps36
      go_wp2_with fail
      refine (entry_to W H ao n cap Z bo m bcap Y hn hm t fr 0 HV.out _ HS.out.arms HS.out.ways).mono ?_
      rintro r w1 ⟨rfl, hb1⟩
      have HS1 := hid (HS.out.stays hb1)
      clear hb1
      go_wp2_with fail
      go_ret2
      exact ⟨none, 0, rfl, World.ownsRow_nil _ _ _ _, HS1.out.below⟩
  · obtain ⟨hR, ⟨ht0, ht1⟩, f0, f1⟩ := h.right
    obtain rfl : n = m := hR.eq
    have HV := hid h
    have HR := hid hR
    have HI := hid hI
    have HJ := hid hB
    have HT := hid hT
    have q1 : (q : Int) ≤ 1000 := by omega
    obtain ⟨i0, hi, hz0, hz1, hz2⟩ := info_parts info3
    have HIN := hid (And.intro hi (And.intro hz0 (And.intro hz1 hz2)))
    obtain ⟨A, hA⟩ : ∃ A, A = w.heap.size := ⟨_, rfl⟩
    have HA := hid hA
    have HE := hid (es_start1 (W := W) (H := H) (cap := cap) (bcap := bcap) hI hB #[])
    simp only [← hA] at HE
    clear hI hB hT h hR hi hz0 hz1 hz2
    go_enter Try.func36, Try.ntmps36
    go_wp2_with fail
    refine (entry_to W H ao n cap Z bo n bcap Y hn hn t fr 0 HV.out _ HS.out.arms HS.out.ways).mono ?_
    rintro r w1 ⟨rfl, hb1⟩
    have HE1 := hid (HE.out.stays hb1)
    clear hb1 HE HS
    go_wp2_with fail
    simp only [← hA]
    clear hA
    have hz1 := HE1.out.size
    have HE2 : Hid (ES A (A + 1) #[] W H ao n cap Z bo n bcap Y [t] (.slice (some ⟨w1.heap.size, 0, none⟩) 1 1) w (w1.alloc (.cells #[.int .i64 t] 3))) := hid (by
      have k := Joins.below_alloc1 w1 (.cells #[.int .i64 t] 3)
      have e := HE1.out.stays k
      exact ⟨e.hA, e.hx, e.hB, World.ownsRow_lit (size := 1) w1 #[.int .i64 t] 1 hz1 (by unfold maxLen; omega) rfl, e.below, e.arms, e.ways, e.size⟩)
    clear HE1 hz1
    generalize World.alloc _ _ = w2 at HE2 ⊢
    obtain ⟨lst, hlst⟩ : ∃ lst, lst = Value.slice (some ⟨w1.heap.size, 0, none⟩) 1 1 := ⟨_, rfl⟩
    rw [← hlst] at HE2 ⊢
    clear hlst
    go_loopw [1, 2, 11, 30] (fun tv fv lv iv wr => ∃ (i r : Nat) (u : Nat) (g : Int) (L : List Int), i + r = q ∧ iv = .int .i64 i ∧ tv = .int .i64 u ∧ fv = .int .i64 g ∧ Hid (u < n ∧ g ≤ 3) ∧ Hid (L.length = i + 1) ∧ Hid (t :: rest W H Z Y T q 0 t fr = L ++ rest W H Z Y T r i u g) ∧ Hid (ES A (A + 1) #[] W H ao n cap Z bo n bcap Y L lv w wr)) (fun _ _ _ iv _ => q - (intOf iv).toNat)
    case atStart => exact ⟨0, q, t.toNat, fr, [t], by omega, rfl, by rw [Int.toNat_of_nonneg ht0], rfl, hid ⟨by omega, f1⟩, hid rfl, hid (by rw [Int.toNat_of_nonneg ht0]; rfl), HE2⟩
    case round =>
      obtain ⟨i, r, u, g, L, hir, rfl, rfl, rfl, HU, HLN, HD, HE⟩ := hrel
      clear HE2
      have hlen := HLN.out
      by_cases hlt : i < q
      · obtain ⟨cb, co', rfl, hcz, hc⟩ := ints_cell HT.out hlt
        obtain ⟨x, hx⟩ : ∃ x, x = T i := ⟨_, rfl⟩
        rw [← hx] at hc
        have HX := hid hx
        have hc' := ((show Below w.heap.size w wr by rw [← HA.out]; exact HE.out.below).cell (p := ⟨cb, co' + i, none⟩) hcz).trans hc
        obtain ⟨c0, c1, c2, c3, hz0⟩ := HE.out.cells
        clear hx hc
        go_wp2_with fail
        refine (exits_to W H ao n cap Z bo bcap Y HR.out.sized HR.out.args.arms HR.out.args.fine u g HU.out.1 HU.out.2 _ HE.out.arms HE.out.ways).mono ?_
        rintro r3 w3 ⟨al, cl, rfl, hrow, hb3⟩
        have HE3 := hid (HE.out.stays hb3)
        have HOI := hid (ints_of_row hrow rfl)
        obtain ⟨O, hO⟩ : ∃ O, O = outl W H Z Y u g := ⟨_, rfl⟩
        have HO := hid hO
        have hol := outl_len W H Z Y u g
        rw [← hO] at HOI hol ⊢
        clear hb3 hrow c0 c1 c2 c3 hz0 HE hc' hO
        by_cases h0 : O.length = 0
        · obtain rfl : O = [] := List.length_eq_zero_iff.1 h0
          clear h0
          go_wp2_with fail
          go_ret2
          have : t :: rest W H Z Y T q 0 t fr = L := by rw [HD.out, rest_end HO.out.symm, List.append_nil]
          rw [this]
          obtain ⟨al', cl', rfl⟩ := row_slice HE3.out.row
          exact ⟨al', cl', rfl, row_mono HE3.out.row (by rw [← HA.out]; omega), by rw [← HA.out]; exact HE3.out.below⟩
        · have hne : O ≠ [] := fun k => h0 (by rw [k]; rfl)
          have hmem := pk_mem O x hne
          have hpk := pk_at O x hne
          have hst := step_at (n := n) (fr := g) (s := pk O x) HR.out.sized HR.out.args.arms (t := (u : Int)) ⟨by omega, by have := HU.out.1; omega⟩ HU.out.2 (by rw [← HO.out]; exact hmem)
          obtain ⟨⟨s0, s3⟩, ⟨m0, m1⟩, mb, _, _⟩ := hst
          have l0 : ((O.length : Int) == 0) = false := by simp; exact fun k => hne (by simpa using k)
          obtain ⟨v, hv⟩ : ∃ v, v = max x 0 % (O.length : Int) := ⟨_, rfl⟩
          rw [← hv] at hpk
          obtain ⟨v0, v1⟩ := hpk
          obtain ⟨v, rfl⟩ := Int.eq_ofNat_of_zero_le v0
          obtain ⟨ob, oo, rfl, hoz, hoc⟩ := HOI.out v (by omega)
          have hps : O.getD v 0 = pk O x := by unfold pk; rw [← hv, Int.toNat_natCast]
          simp only [hps] at hoc
          obtain ⟨s, hs⟩ : ∃ s, s = pk O x := ⟨_, rfl⟩
          rw [← hs] at hoc s0 s3 m0 m1 mb
          have HSS := hid hs
          obtain ⟨k, hk⟩ : ∃ k, k = met W H Z u s := ⟨_, rfl⟩
          rw [← hk] at m0 m1 mb
          have HK := hid hk
          obtain ⟨k, rfl⟩ := Int.eq_ofNat_of_zero_le m0
          have HKB := hid mb.symm
          have HKN : Hid (k < n) := hid (by omega)
          obtain ⟨d, hd⟩ : ∃ d, (s + 2) % 4 = d := ⟨_, rfl⟩
          have HDD := hid hd
          have HNE := hid hne
          have HT0 : Hid ((0 : Int) ≤ (u : Int)) := hid (by omega)
          have HT1 : Hid ((u : Int) < W * H) := hid (by have := HR.out.args.arms; have := HU.out.1; omega)
          have hmx : Int.tmod (max x 0) (O.length : Int) = (v : Int) := by rw [hv]; exact Int.tmod_eq_emod_of_nonneg (by omega)
          have e2 : Int.tmod (s + 2) 4 = d := by rw [← hd]; exact Int.tmod_eq_emod_of_nonneg (by omega)
          obtain ⟨c0, c1, c2, c3, hz0⟩ := HE3.out.cells
          clear h0 hne hmem hs hk hps hv mb hd HOI m0 m1
          by_cases hx0 : 0 ≤ x
          · have hmx2 : Int.tmod x (O.length : Int) = (v : Int) := by rw [← hmx, Int.max_eq_left hx0]
            have hmax : max x 0 = x := Int.max_eq_left hx0
            go_wp2_with fail
            refine (beyond_any W H u s k (.slice ao n cap) (.slice bo n bcap) HR.out.sized HT0.out HT1.out s0 s3 HKB.out _).mono ?_
            rintro r4 w4 ⟨rfl, hb4⟩
            have HE4 := hid (HE3.out.stays hb4)
            have hz4 := HE4.out.size
            clear hb4 HE3 c0 c1 c2 c3 hz0 hoc hoz
            go_wp2_with fail
            refine (opposite_any s s0 s3 d HDD.out _).mono ?_
            rintro r4 w5 ⟨rfl, rfl⟩
            go_wp2_with (at_builtin; refine wpList_append_own _ rfl _ _ 22 rfl (A + 1) 3 i0 (.int .i64 0) 1 8 Try.underlying22 HIN.out.1 HIN.out.2.1 HIN.out.2.2.1 HIN.out.2.2.2 rfl (by decide) _ _ _ rfl (HE4.out.row.alloc _) ⟨w4.heap.size, 0, none⟩ 1 1 [.int .i64 k] rfl rfl ?c1 ?c2 ?c3 ?c4 ?c5 ?_)
            case c1 =>
              intro j u' hj
              match j, hj with
              | 0, hj => simp at hj; subst hj; simp [Addr.add]
            case c2 => intro u' hu; simp at hu; subst hu; rfl
            case c3 => unfold maxLen; omega
            case c4 => omega
            case c5 => simp; omega
            intro v' w6 hown' hgrow _
            have H5 := hid (HE4.out.app (x := (k : Int)) (by rw [HLN.out]; exact hown') _ hgrow HI.out HJ.out HA.out)
            clear hown' hgrow
            obtain ⟨r, rfl⟩ : ∃ r', r = r' + 1 := ⟨r - 1, by omega⟩
            go_wp2_with fail
            go_roundw
            case rel =>
              refine ⟨i + 1, r, k, d, L ++ [(k : Int)], by omega, by go_num, rfl, rfl, hid ⟨HKN.out, by have := HDD.out; omega⟩, hid (by simp; omega), hid ?_, H5⟩
              rw [HD.out, rest_go (by rw [← HO.out]; exact HNE.out), ← HO.out, ← HX.out, ← HSS.out, ← HK.out, HDD.out, List.append_assoc]
              rfl
            case measure => simp [intOf]; omega
          · have hx1 : x < 0 := by omega
            have hmax : max x 0 = 0 := Int.max_eq_right (by omega)
            have hmx2 : Int.tmod 0 (O.length : Int) = (v : Int) := by rw [← hmx, hmax]
            clear hx0
            go_wp2_with fail
            refine (beyond_any W H u s k (.slice ao n cap) (.slice bo n bcap) HR.out.sized HT0.out HT1.out s0 s3 HKB.out _).mono ?_
            rintro r4 w4 ⟨rfl, hb4⟩
            have HE4 := hid (HE3.out.stays hb4)
            have hz4 := HE4.out.size
            clear hb4 HE3 c0 c1 c2 c3 hz0 hoc hoz
            go_wp2_with fail
            refine (opposite_any s s0 s3 d HDD.out _).mono ?_
            rintro r4 w5 ⟨rfl, rfl⟩
            go_wp2_with (at_builtin; refine wpList_append_own _ rfl _ _ 22 rfl (A + 1) 3 i0 (.int .i64 0) 1 8 Try.underlying22 HIN.out.1 HIN.out.2.1 HIN.out.2.2.1 HIN.out.2.2.2 rfl (by decide) _ _ _ rfl (HE4.out.row.alloc _) ⟨w4.heap.size, 0, none⟩ 1 1 [.int .i64 k] rfl rfl ?c1 ?c2 ?c3 ?c4 ?c5 ?_)
            case c1 =>
              intro j u' hj
              match j, hj with
              | 0, hj => simp at hj; subst hj; simp [Addr.add]
            case c2 => intro u' hu; simp at hu; subst hu; rfl
            case c3 => unfold maxLen; omega
            case c4 => omega
            case c5 => simp; omega
            intro v' w6 hown' hgrow _
            have H5 := hid (HE4.out.app (x := (k : Int)) (by rw [HLN.out]; exact hown') _ hgrow HI.out HJ.out HA.out)
            clear hown' hgrow
            obtain ⟨r, rfl⟩ : ∃ r', r = r' + 1 := ⟨r - 1, by omega⟩
            go_wp2_with fail
            go_roundw
            case rel =>
              refine ⟨i + 1, r, k, d, L ++ [(k : Int)], by omega, by go_num, rfl, rfl, hid ⟨HKN.out, by have := HDD.out; omega⟩, hid (by simp; omega), hid ?_, H5⟩
              rw [HD.out, rest_go (by rw [← HO.out]; exact HNE.out), ← HO.out, ← HX.out, ← HSS.out, ← HK.out, HDD.out, List.append_assoc]
              rfl
            case measure => simp [intOf]; omega
      · obtain rfl : i = q := by omega
        obtain rfl : r = 0 := by omega
        go_wp2_with fail
        go_ret2
        have : t :: rest W H Z Y T i 0 t fr = L := by rw [HD.out]; exact List.append_nil _
        rw [this]
        obtain ⟨al', cl', rfl⟩ := row_slice HE.out.row
        exact ⟨al', cl', rfl, row_mono HE.out.row (by rw [← HA.out]; omega), by rw [← HA.out]; exact HE.out.below⟩

set_option maxHeartbeats 6400000 in
theorem refdrive_to (W H : Int) (ao : Option Addr) (n cap : Nat) (Z : Nat → Int) (bo : Option Addr) (m bcap : Nat) (Y : Nat → Int) (hn : n ≤ 9223372036854775807) (hm : m ≤ 9223372036854775807) (t fr : Int) (co : Option Addr) (q ccap : Nat) (T : Nat → Int) (hq : q ≤ 9223372036854775807) {D : List Int} {e : Int}
    (h : GIs W H n m Z Y t fr T q D e) (w : World) (hI : Ints w ao n Z) (hB : Ints w bo m Y) (hT : Ints w co q T) :
    Calls Try.prog 37 #[rv W H (.slice ao n cap) (.slice bo m bcap), .int .i64 t, .int .i64 fr, .slice co q ccap] w (Lst2 D e w) := by
  have HS := hid (sb_start (W := W) (H := H) (cap := cap) (bcap := bcap) hI hB)
  rcases h with ⟨he, h, rfl⟩ | ⟨rfl, h, hq1, rfl⟩
  · rcases h with h | ⟨rfl, h, hq1⟩
    · have HV := hid h
      have e0 : (e != 0) = true := by simpa using he
      clear hI hB hT h he
      go_enter Try.func37, Try.ntmps37
      go_wp2_with fail
      obtain ⟨LL, hLL⟩ : ∃ LL, NIs W H n m Z Y t fr LL e := by
        by_cases k : (e : Int) = 0
        · exact ⟨_, HV.out, fun k' => absurd k k', fun _ => rfl⟩
        · exact ⟨[], HV.out, fun _ => rfl, fun k' => absurd k' k⟩
      refine (refnext_to W H ao n cap Z bo m bcap Y hn hm t fr LL e hLL _ HS.out.arms HS.out.ways).mono ?_
      rintro r w1 ⟨al0, cl0, rfl, _, hb1⟩
      clear hLL
      have HS1 := hid (HS.out.stays hb1)
      clear hb1
      go_wp2_with fail
      go_ret2
      exact ⟨none, 0, rfl, World.ownsRow_nil _ _ _ _, HS1.out.below⟩
    · have HV := hid h
      have q1 : (1000 : Int) < (q : Int) := by omega
      clear hI hB hT h he hq1
      go_enter Try.func37, Try.ntmps37
      go_wp2_with fail
      obtain ⟨LL, hLL⟩ : ∃ LL, NIs W H n m Z Y t fr LL 0 := by
        by_cases k : (0 : Int) = 0
        · exact ⟨_, HV.out, fun k' => absurd k k', fun _ => rfl⟩
        · exact ⟨[], HV.out, fun _ => rfl, fun k' => absurd k' k⟩
      refine (refnext_to W H ao n cap Z bo m bcap Y hn hm t fr LL 0 hLL _ HS.out.arms HS.out.ways).mono ?_
      rintro r w1 ⟨al0, cl0, rfl, _, hb1⟩
      clear hLL
      have HS1 := hid (HS.out.stays hb1)
      clear hb1
      go_wp2_with fail
      go_ret2
      exact ⟨none, 0, rfl, World.ownsRow_nil _ _ _ _, HS1.out.below⟩
  · obtain ⟨hR, ⟨ht0, ht1⟩, f0, f1⟩ := h.right
    obtain rfl : n = m := hR.eq
    have HV := hid h
    have HR := hid hR
    have HI := hid hI
    have HJ := hid hB
    have HT := hid hT
    have q1 : (q : Int) ≤ 1000 := by omega
    obtain ⟨i0, hi, hz0, hz1, hz2⟩ := info_parts info3
    have HIN := hid (And.intro hi (And.intro hz0 (And.intro hz1 hz2)))
    obtain ⟨A, hA⟩ : ∃ A, A = w.heap.size := ⟨_, rfl⟩
    have HA := hid hA
    have HE := hid (es_start1 (W := W) (H := H) (cap := cap) (bcap := bcap) hI hB #[])
    simp only [← hA] at HE
    clear hI hB hT h hR hi hz0 hz1 hz2
    go_enter Try.func37, Try.ntmps37
    go_wp2_with fail
    obtain ⟨LL, hLL⟩ : ∃ LL, NIs W H n n Z Y t fr LL 0 := by
      by_cases k : (0 : Int) = 0
      · exact ⟨_, HV.out, fun k' => absurd k k', fun _ => rfl⟩
      · exact ⟨[], HV.out, fun _ => rfl, fun k' => absurd k' k⟩
    refine (refnext_to W H ao n cap Z bo n bcap Y hn hn t fr LL 0 hLL _ HS.out.arms HS.out.ways).mono ?_
    rintro r w1 ⟨al0, cl0, rfl, _, hb1⟩
    clear hLL
    have HE1 := hid (HE.out.stays hb1)
    clear hb1 HE HS
    go_wp2_with fail
    simp only [← hA]
    clear hA
    have hz1 := HE1.out.size
    have HE2 : Hid (ES A (A + 1) #[] W H ao n cap Z bo n bcap Y [t] (.slice (some ⟨w1.heap.size, 0, none⟩) 1 1) w (w1.alloc (.cells #[.int .i64 t] 3))) := hid (by
      have k := Joins.below_alloc1 w1 (.cells #[.int .i64 t] 3)
      have e := HE1.out.stays k
      exact ⟨e.hA, e.hx, e.hB, World.ownsRow_lit (size := 1) w1 #[.int .i64 t] 1 hz1 (by unfold maxLen; omega) rfl, e.below, e.arms, e.ways, e.size⟩)
    clear HE1 hz1
    generalize World.alloc _ _ = w2 at HE2 ⊢
    obtain ⟨lst, hlst⟩ : ∃ lst, lst = Value.slice (some ⟨w1.heap.size, 0, none⟩) 1 1 := ⟨_, rfl⟩
    rw [← hlst] at HE2 ⊢
    clear hlst
    go_loopw [1, 2, 12, 34] (fun tv fv lv iv wr => ∃ (i r : Nat) (u : Nat) (g : Int) (L : List Int), i + r = q ∧ iv = .int .i64 i ∧ tv = .int .i64 u ∧ fv = .int .i64 g ∧ Hid (u < n ∧ g ≤ 3) ∧ Hid (L.length = i + 1) ∧ Hid (t :: rest W H Z Y T q 0 t fr = L ++ rest W H Z Y T r i u g) ∧ Hid (ES A (A + 1) #[] W H ao n cap Z bo n bcap Y L lv w wr)) (fun _ _ _ iv _ => q - (intOf iv).toNat)
    case atStart => exact ⟨0, q, t.toNat, fr, [t], by omega, rfl, by rw [Int.toNat_of_nonneg ht0], rfl, hid ⟨by omega, f1⟩, hid rfl, hid (by rw [Int.toNat_of_nonneg ht0]; rfl), HE2⟩
    case round =>
      obtain ⟨i, r, u, g, L, hir, rfl, rfl, rfl, HU, HLN, HD, HE⟩ := hrel
      clear HE2
      have hlen := HLN.out
      by_cases hlt : i < q
      · obtain ⟨cb, co', rfl, hcz, hc⟩ := ints_cell HT.out hlt
        obtain ⟨x, hx⟩ : ∃ x, x = T i := ⟨_, rfl⟩
        rw [← hx] at hc
        have HX := hid hx
        have hc' := ((show Below w.heap.size w wr by rw [← HA.out]; exact HE.out.below).cell (p := ⟨cb, co' + i, none⟩) hcz).trans hc
        obtain ⟨c0, c1, c2, c3, hz0⟩ := HE.out.cells
        clear hx hc
        go_wp2_with fail
        refine (out_to W H ao n cap Z bo bcap Y HR.out.sized HR.out.args.arms HR.out.args.fine u g HU.out.1 HU.out.2 _ HE.out.arms HE.out.ways).mono ?_
        rintro r3 w3 ⟨al, cl, rfl, hrow, hb3⟩
        have HE3 := hid (HE.out.stays hb3)
        have HOI := hid (ints_of_row hrow rfl)
        obtain ⟨O, hO⟩ : ∃ O, O = outl W H Z Y u g := ⟨_, rfl⟩
        have HO := hid hO
        have hol := outl_len W H Z Y u g
        rw [← hO] at HOI hol ⊢
        clear hb3 hrow c0 c1 c2 c3 hz0 HE hc' hO
        by_cases h0 : O.length = 0
        · obtain rfl : O = [] := List.length_eq_zero_iff.1 h0
          clear h0
          go_wp2_with fail
          go_ret2
          have : t :: rest W H Z Y T q 0 t fr = L := by rw [HD.out, rest_end HO.out.symm, List.append_nil]
          rw [this]
          obtain ⟨al', cl', rfl⟩ := row_slice HE3.out.row
          exact ⟨al', cl', rfl, row_mono HE3.out.row (by rw [← HA.out]; omega), by rw [← HA.out]; exact HE3.out.below⟩
        · have hne : O ≠ [] := fun k => h0 (by rw [k]; rfl)
          have hmem := pk_mem O x hne
          have hpk := pk_at O x hne
          have hst := step_at (n := n) (fr := g) (s := pk O x) HR.out.sized HR.out.args.arms (t := (u : Int)) ⟨by omega, by have := HU.out.1; omega⟩ HU.out.2 (by rw [← HO.out]; exact hmem)
          obtain ⟨⟨s0, s3⟩, ⟨m0, m1⟩, mb, _, _⟩ := hst
          have l0 : ((O.length : Int) == 0) = false := by simp; exact fun k => hne (by simpa using k)
          obtain ⟨v, hv⟩ : ∃ v, v = max x 0 % (O.length : Int) := ⟨_, rfl⟩
          rw [← hv] at hpk
          obtain ⟨v0, v1⟩ := hpk
          obtain ⟨v, rfl⟩ := Int.eq_ofNat_of_zero_le v0
          obtain ⟨ob, oo, rfl, hoz, hoc⟩ := HOI.out v (by omega)
          have hps : O.getD v 0 = pk O x := by unfold pk; rw [← hv, Int.toNat_natCast]
          simp only [hps] at hoc
          obtain ⟨s, hs⟩ : ∃ s, s = pk O x := ⟨_, rfl⟩
          rw [← hs] at hoc s0 s3 m0 m1 mb
          have HSS := hid hs
          obtain ⟨k, hk⟩ : ∃ k, k = met W H Z u s := ⟨_, rfl⟩
          rw [← hk] at m0 m1 mb
          have HK := hid hk
          obtain ⟨k, rfl⟩ := Int.eq_ofNat_of_zero_le m0
          have HKB := hid mb.symm
          have HKN : Hid (k < n) := hid (by omega)
          obtain ⟨d, hd⟩ : ∃ d, (s + 2) % 4 = d := ⟨_, rfl⟩
          have HDD := hid hd
          have HNE := hid hne
          have HT0 : Hid ((0 : Int) ≤ (u : Int)) := hid (by omega)
          have HT1 : Hid ((u : Int) < W * H) := hid (by have := HR.out.args.arms; have := HU.out.1; omega)
          have hmx : Int.tmod (max x 0) (O.length : Int) = (v : Int) := by rw [hv]; exact Int.tmod_eq_emod_of_nonneg (by omega)
          have e2 : Int.tmod (s + 2) 4 = d := by rw [← hd]; exact Int.tmod_eq_emod_of_nonneg (by omega)
          obtain ⟨c0, c1, c2, c3, hz0⟩ := HE3.out.cells
          clear h0 hne hmem hs hk hps hv mb hd HOI m0 m1
          by_cases hx0 : 0 ≤ x
          · have hmx2 : Int.tmod x (O.length : Int) = (v : Int) := by rw [← hmx, Int.max_eq_left hx0]
            have hmax : max x 0 = x := Int.max_eq_left hx0
            go_wp2_with fail
            refine (meets_to W H ao n cap Z bo n bcap Y HR.out.sized HR.out.args.arms (fun i hi => (HR.out.args.fine i hi).1) u s HU.out.1 s0 s3 k HK.out.symm _ HE3.out.arms HE3.out.ways).mono ?_
            rintro r4 w4 ⟨rfl, hb4⟩
            have HE4 := hid (HE3.out.stays hb4)
            have hz4 := HE4.out.size
            clear hb4 HE3 c0 c1 c2 c3 hz0 hoc hoz
            go_wp2_with (at_builtin; refine wpList_append_own _ rfl _ _ 22 rfl (A + 1) 3 i0 (.int .i64 0) 1 8 Try.underlying22 HIN.out.1 HIN.out.2.1 HIN.out.2.2.1 HIN.out.2.2.2 rfl (by decide) _ _ _ rfl (HE4.out.row.alloc _) ⟨w4.heap.size, 0, none⟩ 1 1 [.int .i64 k] rfl rfl ?c1 ?c2 ?c3 ?c4 ?c5 ?_)
            case c1 =>
              intro j u' hj
              match j, hj with
              | 0, hj => simp at hj; subst hj; simp [Addr.add]
            case c2 => intro u' hu; simp at hu; subst hu; rfl
            case c3 => unfold maxLen; omega
            case c4 => omega
            case c5 => simp; omega
            intro v' w6 hown' hgrow _
            have H5 := hid (HE4.out.app (x := (k : Int)) (by rw [HLN.out]; exact hown') _ hgrow HI.out HJ.out HA.out)
            clear hown' hgrow
            obtain ⟨r, rfl⟩ : ∃ r', r = r' + 1 := ⟨r - 1, by omega⟩
            go_wp2_with fail
            go_roundw
            case rel =>
              refine ⟨i + 1, r, k, d, L ++ [(k : Int)], by omega, by go_num, rfl, rfl, hid ⟨HKN.out, by have := HDD.out; omega⟩, hid (by simp; omega), hid ?_, H5⟩
              rw [HD.out, rest_go (by rw [← HO.out]; exact HNE.out), ← HO.out, ← HX.out, ← HSS.out, ← HK.out, HDD.out, List.append_assoc]
              rfl
            case measure => simp [intOf]; omega
          · have hx1 : x < 0 := by omega
            have hmax : max x 0 = 0 := Int.max_eq_right (by omega)
            have hmx2 : Int.tmod 0 (O.length : Int) = (v : Int) := by rw [← hmx, hmax]
            clear hx0
            go_wp2_with fail
            refine (meets_to W H ao n cap Z bo n bcap Y HR.out.sized HR.out.args.arms (fun i hi => (HR.out.args.fine i hi).1) u s HU.out.1 s0 s3 k HK.out.symm _ HE3.out.arms HE3.out.ways).mono ?_
            rintro r4 w4 ⟨rfl, hb4⟩
            have HE4 := hid (HE3.out.stays hb4)
            have hz4 := HE4.out.size
            clear hb4 HE3 c0 c1 c2 c3 hz0 hoc hoz
            go_wp2_with (at_builtin; refine wpList_append_own _ rfl _ _ 22 rfl (A + 1) 3 i0 (.int .i64 0) 1 8 Try.underlying22 HIN.out.1 HIN.out.2.1 HIN.out.2.2.1 HIN.out.2.2.2 rfl (by decide) _ _ _ rfl (HE4.out.row.alloc _) ⟨w4.heap.size, 0, none⟩ 1 1 [.int .i64 k] rfl rfl ?c1 ?c2 ?c3 ?c4 ?c5 ?_)
            case c1 =>
              intro j u' hj
              match j, hj with
              | 0, hj => simp at hj; subst hj; simp [Addr.add]
            case c2 => intro u' hu; simp at hu; subst hu; rfl
            case c3 => unfold maxLen; omega
            case c4 => omega
            case c5 => simp; omega
            intro v' w6 hown' hgrow _
            have H5 := hid (HE4.out.app (x := (k : Int)) (by rw [HLN.out]; exact hown') _ hgrow HI.out HJ.out HA.out)
            clear hown' hgrow
            obtain ⟨r, rfl⟩ : ∃ r', r = r' + 1 := ⟨r - 1, by omega⟩
            go_wp2_with fail
            go_roundw
            case rel =>
              refine ⟨i + 1, r, k, d, L ++ [(k : Int)], by omega, by go_num, rfl, rfl, hid ⟨HKN.out, by have := HDD.out; omega⟩, hid (by simp; omega), hid ?_, H5⟩
              rw [HD.out, rest_go (by rw [← HO.out]; exact HNE.out), ← HO.out, ← HX.out, ← HSS.out, ← HK.out, HDD.out, List.append_assoc]
              rfl
            case measure => simp [intOf]; omega
      · obtain rfl : i = q := by omega
        obtain rfl : r = 0 := by omega
        go_wp2_with fail
        go_ret2
        have : t :: rest W H Z Y T i 0 t fr = L := by rw [HD.out]; exact List.append_nil _
        rw [this]
        obtain ⟨al', cl', rfl⟩ := row_slice HE.out.row
        exact ⟨al', cl', rfl, row_mono HE.out.row (by rw [← HA.out]; omega), by rw [← HA.out]; exact HE.out.below⟩
end Go.Proofs.Ytaepiegbpgkciaa
