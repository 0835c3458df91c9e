/-
  The walk of Parts.
-/
import Derived.Test.YtaepiegbpgkciaaWalkTry
import Derived.Test.YtaepiegbpgkciaaWalkRepeat
import Derived.Test.YtaepiegbpgkciaaWalkVal
import Derived.Deep.DeepCutAuto
import Derived.WalkMore
namespace Go.Proofs.Ytaepiegbpgkciaa
open Go.RowKit

theorem ps_start {W H : Int} {ao bo : Option Addr} {n cap bcap : Nat} {Z Y P : Nat → Int} {w w1 w2 : World} {A G : Nat} (hA : A = w.heap.size) (hI : Ints w ao n Z) (hJ : Ints w bo n Y)
    (h1 : w1.heap[A]? = some (.cells #[.int .i64 W, .int .i64 H, .slice ao n cap, .slice bo n bcap] 24 (0, 0))) (hb1 : Below A w w1) (o : Obj) (hG : w2.ownsRow (w1.alloc o).heap.size 3 1 (.slice (some ⟨G, 0, none⟩) n n) n (vals n (iv P))) (hb2 : Below (w1.alloc o).heap.size (w1.alloc o) w2) :
    PS A G w2.heap.size (w2.heap.size + 1) W H ao n cap Z bo bcap Y P [] (.slice none 0 0) w ((w2.alloc (.cells #[.slice (some ⟨G, 0, none⟩) n n] 22)).alloc (.cells #[.slice none 0 0] 22)) := by
  have hz1 := heap_lt h1
  have hz2 := hb2.size
  simp at hz2
  obtain ⟨g1, g2⟩ := hG.lt G rfl
  simp at g1
  obtain ⟨wb, hwb⟩ : ∃ wb, wb = w2.alloc (.cells #[.slice (some ⟨G, 0, none⟩) n n] 22) := ⟨_, rfl⟩
  have ee : wb.heap[w2.heap.size]? = some (.cells #[.slice (some ⟨G, 0, none⟩) n n] 22 (0, 0)) := by
    rw [hwb]
    show (w2.heap.push _)[_]? = _
    rw [Array.getElem?_push, if_pos rfl]
  have eb : Below w2.heap.size w2 wb := by rw [hwb]; exact Joins.below_alloc1 w2 _
  have er : wb.ownsRow (w1.alloc o).heap.size 3 1 (.slice (some ⟨G, 0, none⟩) n n) n (vals n (iv P)) := row_stays hG eb
  have es : wb.heap.size = w2.heap.size + 1 := by rw [hwb]; simp
  rw [← hwb]
  have q2 := Joins.below_alloc1 wb (.cells #[.slice none 0 0] 22)
  have qA : Below (w1.alloc o).heap.size (w1.alloc o) (wb.alloc (.cells #[.slice none 0 0] 22)) := (hb2.trans (eb.mono (by simp; omega))).trans (q2.mono (by rw [es]; simp; omega))
  have qO := Joins.below_alloc1 w1 o
  refine ⟨((qA.block A (by simp; omega)).trans (qO.block A hz1)).trans h1, (q2.block _ (by omega)).trans ee, ?_, row_mono (row_stays er q2) (by simp; omega), World.ownsRow_nil _ _ _ _, hb1.trans ((qO.mono (by omega)).trans (qA.mono (by simp; omega))), hA, by omega, hI, hJ⟩
  show (wb.heap.push _)[_]? = _
  rw [← es, Array.getElem?_push, if_pos rfl]

set_option maxHeartbeats 6400000 in
theorem parts_to (W H : Int) (ao : Option Addr) (n cap : Nat) (Z : Nat → Int) (bo : Option Addr) (m bcap : Nat) (Y : Nat → Int) (hn : n ≤ 9223372036854775807) (hm : m ≤ 9223372036854775807) (e : Int) (h : VErr W H n m Z Y e) (w : World) (hI : Ints w ao n Z) (hB : Ints w bo m Y) :
    Calls Try.prog 34 #[rv W H (.slice ao n cap) (.slice bo m bcap)] w fun r w' => Below w.heap.size w w' ∧
      ((e ≠ 0 ∧ r = .returned (.tuple #[.slice none 0 0, .int .i64 e])) ∨
       (e = 0 ∧ ∃ (g : Nat) (P : Nat → Int), r = .returned (.tuple #[.slice (some ⟨g, 0, none⟩) n n, .int .i64 0]) ∧ w'.ownsRow w.heap.size 3 1 (.slice (some ⟨g, 0, none⟩) n n) n (vals n (iv P)) ∧ IsPart W H n Z P)) := by
  have HS := hid (sb_start (W := W) (H := H) (cap := cap) (bcap := bcap) hI hB)
  have HV := hid h
  by_cases he : e = 0
  · subst he
    have hR : Right W H n m Z Y := by
      rcases h with ⟨_, h⟩ | h
      · exact h
      · simp at h
    obtain rfl : n = m := hR.eq
    have HR := hid hR
    obtain ⟨n16, n1024⟩ := hR.small
    have HI := hid hI
    have HB := hid hB
    obtain ⟨i0, hi, hz0, hz1, hz2⟩ := info_parts info3
    have HIN := hid (And.intro hi (And.intro hz0 (And.intro hz1 hz2)))
    clear hI hB h hR hi hz0 hz1 hz2
    go_enter Try.func34, Try.ntmps34
    go_wp2_with fail
    refine (validate_any W H ao n cap Z bo n bcap Y hn hm _ HS.out.arms HS.out.ways 0 HV.out).mono ?_
    rintro r w1 ⟨rfl, hb1⟩
    have HS1 := hid (HS.out.stays hb1)
    obtain ⟨A, hA⟩ : ∃ A, A = w.heap.size := ⟨_, rfl⟩
    have HA := hid hA
    obtain ⟨c0, c1, c2, c3, az⟩ := HS1.out.at hA
    have H1 : Hid (w1.heap[A]? = some (.cells #[.int .i64 W, .int .i64 H, .slice ao n cap, .slice bo n bcap] 24 (0, 0))) := hid (by
      rw [hA]
      refine (hb1.block _ (by simp)).trans ?_
      show (w.heap.push _)[_]? = _
      rw [Array.getElem?_push, if_pos rfl])
    simp only [← hA] at H1 ⊢
    have hmf : ∀ (fn : Fn) (first cap : Array Value) (w : World), (Instr.makeFunc fn first cap).run Try.prog w = .ok (.func fn first cap) w := fun _ _ _ _ => rfl
    clear hb1 HS hA
    go_wp2_with fail
    refine (repeat_any w1.heap.size 0 1 (-1) n n16 n1024 _ (by simp) (by simp)).mono ?_
    rintro r w2 ⟨G, rfl, hG, hb2⟩
    have HP := hid (ps_start (P := fun _ => -1) HA.out HI.out HB.out H1.out (by rw [HA.out]; exact HS1.out.below) _ hG hb2)
    obtain ⟨E, hE⟩ : ∃ E, E = w2.heap.size := ⟨_, rfl⟩
    obtain ⟨D, hD⟩ : ∃ D, D = E + 1 := ⟨_, rfl⟩
    simp only [← hE, ← hD] at HP
    clear hG hb2 c0 c1 c2 c3 az
    go_upto_region 7 with (fail)
    simp only [← hE, ← hD]
    clear hmf
    generalize World.alloc _ _ = w3 at HP ⊢
    clear hE hD
    obtain ⟨c0, c1, c2, c3, ce, cd, fd, az, ez, dz⟩ := HP.out.cells
    go_wp2_with fail
    go_loopw [25] (fun iv wr => ∃ f : Nat, f ≤ n ∧ iv = .int .i64 f ∧ Hid (∃ (P : Nat → Int) (lst : Value), Out W H n Z f P ∧ PS A G E D W H ao n cap Z bo bcap Y P [] lst w wr)) (fun iv _ => n - (intOf iv).toNat)
    case atStart => exact ⟨0, by omega, rfl, hid ⟨_, _, Out.start W H n Z, HP.out⟩⟩
    case round =>
      obtain ⟨f, hf, rfl, HX⟩ := hrel
      clear HP c0 c1 c2 c3 ce cd fd az ez dz
      by_cases hlt : f < n
      · obtain ⟨P, lst, hO, hp⟩ := HX.out
        have HO := hid hO
        have HPP := hid hp
        have fn0 : (0 : Int) ≤ (f : Int) := by omega
        have fn1 : (f : Int) < (n : Int) := by omega
        have hfw : IntKind.i64.wrap ((f : Int) + 1) = ((f + 1 : Nat) : Int) := by rw [IntKind.wrap_i64]; omega
        obtain ⟨ba, ga, rfl, haz, ca⟩ := ints_cell hp.arms hlt
        obtain ⟨c0, c1, c2, c3, ce, cd, fd, az, ez, dz⟩ := hp.cells
        obtain ⟨z, hz⟩ : ∃ z, z = Z f := ⟨_, rfl⟩
        rw [← hz] at ca
        have HZ := hid hz
        clear HX hO hp hz
        by_cases hz0 : z = 0
        · have HZ0 := hid hz0
          have g0 : (z == 0) = true := by simpa using hz0
          clear hz0
          go_wp2_with fail
          go_step3
          go_wp2_with fail
          (first | (with_reducible (apply_assumption)) | trace_state)
          go_wp2_with fail
          go_roundw
          case rel => exact ⟨f + 1, by omega, by first | rfl | simp only [hfw], hid ⟨P, lst, HO.out.skip (.inl (by rw [← HZ.out]; exact HZ0.out)), HPP.out⟩⟩
          case measure => simp only [intOf]; omega
        · have g0 : (z == 0) = false := by simpa using hz0
          have HZ0 := hid hz0
          clear hz0
          obtain ⟨cg, fg, gz⟩ := HPP.out.part hlt
          obtain ⟨g, hg⟩ : ∃ g, g = P f := ⟨_, rfl⟩
          rw [← hg] at cg
          have HG := hid hg
          clear hg
          by_cases hg0 : 0 ≤ g
          · go_wp2_with fail
            go_step3
            go_wp2_with fail
            (first | (with_reducible (apply_assumption)) | trace_state)
            go_wp2_with fail
            go_roundw
            case rel => exact ⟨f + 1, by omega, by first | rfl | simp only [hfw], hid ⟨P, lst, HO.out.skip (.inr (by rw [← HG.out]; exact hg0)), HPP.out⟩⟩
            case measure => simp only [intOf]; omega
          · have hgn : g < 0 := by omega
            have HGN := hid hgn
            clear hg0
            go_wp2_with fail
            go_step3
            go_upto_region 12 with (fail)
            have H2 := hid (HPP.out.mark f f)
            clear c0 c1 c2 c3 ce cd fd az ez dz cg fg gz haz ca hgn
            generalize World.setCell _ _ _ = w4 at H2 ⊢
            obtain ⟨c0, c1, c2, c3, ce, cd, fd, az, ez, dz⟩ := H2.out.cells
            obtain ⟨al, cl, hlst⟩ := row_slice H2.out.row
            have hrow := H2.out.row
            simp only [List.length_nil] at hrow hlst
            rw [hlst] at hrow cd
            have HROW := hid hrow
            have HLST := hid hlst
            clear hrow hlst
            go_wp2_with (at_builtin; refine wpList_append_own _ rfl _ _ 22 rfl (D + 1) 3 i0 (.int .i64 0) 1 8 Try.underlying22 HIN.out.1 HIN.out.2.1 HIN.out.2.2.1 HIN.out.2.2.2 rfl (by decide) _ _ _ rfl (HROW.out.alloc _) ⟨w4.heap.size, 0, none⟩ 1 1 [.int .i64 f] rfl rfl ?c1 ?c2 ?c3 ?c4 ?c5 ?_)
            case c1 =>
              intro j v hj
              match j, hj with
              | 0, hj => simp at hj; subst hj; simp [Addr.add]
            case c2 => intro v hv; simp at hv; subst hv; rfl
            case c3 => unfold maxLen; omega
            case c4 => omega
            case c5 => simp; omega
            intro v' w5 hown' hgrow _
            rw [← HLST.out] at hgrow
            obtain ⟨cd5, fd5, dz5⟩ := H2.out.boxD _ hgrow
            have H5 := hid (H2.out.app (u := f) (lst' := v') _ hgrow hown')
            obtain ⟨al', cl', hv'⟩ := row_slice H5.out.row
            have hv1 : v' = .slice al' 1 cl' := hv'
            clear hv'
            subst hv1
            clear hown' hgrow c0 c1 c2 c3 ce cd fd az ez dz H2 HROW HLST
            have HIN2 := hid (HO.out.enter hlt (by rw [← HZ.out]; exact HZ0.out) (by rw [← HG.out]; exact HGN.out))
            have HBA : Hid (bare (upd P f f) n + 1 ≤ n) := hid (by rw [bare_upd hlt (by rw [← HG.out]; exact HGN.out) (by omega)]; exact bare_le P n)
            have HQ : Hid (∀ t, t < n → -1 ≤ P t) := hid (fun t ht => by
              rcases HO.out.all t ht with h | ⟨q, h, _⟩ <;> omega)
            clear HZ0 HZ g0 HG HGN
            go_upto_region 13 with (fail)
            generalize World.setCell _ _ _ = w6 at H5 ⊢
            go_step3
            (first | (with_reducible (apply_assumption)) | trace_state)
            go_wp2_with fail
            go_loopg [10] (2 * bare (upd P f f) n + 1) (fun gk sv wr => ∃ (R : Nat → Int) (L : List Nat) (lst : Value), gk = 2 * bare R n + L.length ∧ Hid (In W H n Z f P R L) ∧ Hid (PS A G E D W H (some ⟨ba, ga, none⟩) n cap Z bo bcap Y R L lst w wr) ∧ Hid (L.length + bare R n ≤ n))
            case atStart => exact ⟨_, _, _, rfl, HIN2, H5, hid (by have := HBA.out; simp only [List.length_cons, List.length_nil]; omega)⟩
            case round =>
              obtain ⟨R, L, lst2, hgk, HRR, HPS, HLB⟩ := hrel
              clear H5 HIN2 HBA
              have HGK := hid hgk
              clear hgk
              rcases L with _ | ⟨t, L⟩
              · obtain ⟨c0, c1, c2, c3, ce, cd, fd, az, ez, dz⟩ := HPS.out.cells
                obtain ⟨al2, cl2, hlst2⟩ := row_slice HPS.out.row
                simp only [List.length_nil] at hlst2
                rw [hlst2] at cd
                clear hlst2
                go_wp2_with fail
                (first | (with_reducible (apply_assumption)) | trace_state)
                go_wp2_with fail
                go_roundw
                case rel => exact ⟨f + 1, by omega, by first | rfl | simp only [hfw], hid ⟨R, _, HRR.out.leave HR.out.sized (by have := HR.out.args.arms; omega) HO.out, HPS.out⟩⟩
                case measure => simp only [intOf]; omega
              · obtain ⟨b, c, hlst2, hct, hbz⟩ := HPS.out.top
                have HTP := HRR.out.path t (by simp)
                obtain ⟨ht, hqt, hpt⟩ := HTP
                obtain ⟨q, hq⟩ : ∃ q, q = L.length + 1 := ⟨_, rfl⟩
                have HLEN := hid hq
                have hLB : q ≤ n := by have := HLB.out; simp only [List.length_cons] at this; omega
                have hqd : decide (0 < q) = true := decide_eq_true (by omega)
                have hq3 : (0 : Int) ≤ (q : Int) - 1 := by omega
                obtain ⟨c0, c1, c2, c3, ce, cd, fd, az, ez, dz⟩ := HPS.out.cells
                rw [hlst2, ← hq] at cd
                have HL2 := hid hlst2
                have HPT := hid hpt
                clear hct hbz hlst2 hq hpt hqt
                go_wp2_with fail
                go_loopw [50] (fun iv wr => ∃ k : Nat, k ≤ 4 ∧ iv = .int .i64 k ∧ Hid (PS A G E D W H (some ⟨ba, ga, none⟩) n cap Z bo bcap Y R (t :: L) lst2 w wr) ∧ Hid (∀ s : Nat, s < k → ∀ u : Nat, met W H Z t s = u → 0 ≤ R u)) (fun iv _ => 4 - (intOf iv).toNat)
                case atStart => exact ⟨0, by omega, rfl, HPS, hid (fun s hs => by omega)⟩
                case round =>
                  obtain ⟨k, hk4, rfl, HPK, HMK⟩ := hrel
                  clear HPS c0 c1 c2 c3 ce cd fd az ez dz
                  by_cases hlk : k < 4
                  · have kn0 : (0 : Int) ≤ (k : Int) := by omega
                    have kn4 : (k : Int) < 4 := by omega
                    have hkw : IntKind.i64.wrap ((k : Int) + 1) = ((k + 1 : Nat) : Int) := by rw [IntKind.wrap_i64]; omega
                    go_wp2_with fail
                    refine (try_to A G E D W H _ n cap Z bo bcap Y R f t L lst2 HR.out.sized HR.out.args.arms (fun i hi => (HR.out.args.fine i hi).1) ht HPT.out (by rw [← HLEN.out]; exact hLB) k (by omega) (by omega) _ rfl w _ HPK.out).mono ?_
                    rintro r w7 (⟨rfl, hno, hp7⟩ | ⟨rfl, u, lst', hku, hun, hu, hp7⟩)
                    · have HNO := hid hno
                      have HP7 := hid hp7
                      clear hno hp7
                      go_wp2_with fail
                      go_roundw
                      case rel => exact ⟨k + 1, by omega, by first | rfl | simp only [hkw], HP7, hid (fun s hs v hv => by
                        by_cases e : s = k
                        · subst e; exact HNO.out v hv
                        · exact HMK.out s (by omega) v hv)⟩
                      case measure => simp only [intOf]; omega
                    · have HU := hid hu
                      have HKU := hid hku
                      have HP7 := hid hp7
                      clear hu hku hp7
                      go_wp2_with fail
                      go_roundg (gk - 1)
                      case measure => have := HGK.out; simp only [List.length_cons] at this; omega
                      case rel =>
                        have hb := bare_upd (x := (f : Int)) hun HU.out (by omega)
                        have hg := HGK.out
                        have hl := HLB.out
                        simp only [List.length_cons] at hg hl
                        exact ⟨_, u :: t :: L, lst', by simp only [List.length_cons]; omega, hid (HRR.out.push HR.out.sized HR.out.args.arms ⟨k, by omega, by omega, HKU.out⟩ HU.out HQ.out).1, HP7, hid (by simp only [List.length_cons]; omega)⟩
                  · obtain rfl : k = 4 := by omega
                    obtain ⟨c0, c1, c2, c3, ce, cd, fd, az, ez, dz⟩ := HPK.out.cells
                    rw [HL2.out, ← HLEN.out] at cd
                    obtain ⟨q', hq'⟩ : ∃ q', q' = L.length := ⟨_, rfl⟩
                    have hcut := HPK.out.row
                    rw [HL2.out, pth_cons] at hcut
                    have HCUT := hid (row_cut hcut)
                    have hqw : IntKind.i64.wrap ((q : Int) - 1) = (q' : Int) := by rw [IntKind.wrap_i64]; have := HLEN.out; omega
                    have HCAP : Hid (q ≤ c) := hid (by
                      obtain ⟨_, hx⟩ := hcut
                      rcases hx with ⟨hv, _⟩ | ⟨_, _, _, hv, _, _, hle, _⟩
                      · cases hv
                      · cases hv; simp only [List.length_cons] at hle; have := HLEN.out; omega)
                    have hcap : q ≤ c := HCAP.out
                    have hq2 : q' < q := by have := HLEN.out; omega
                    clear hcut
                    go_wp2_with fail
                    go_roundg (gk - 1)
                    case measure => have := HGK.out; simp only [List.length_cons] at this; omega
                    case rel =>
                      have hg := HGK.out
                      have hl := HLB.out
                      simp only [List.length_cons] at hg hl
                      exact ⟨R, L, _, by omega, hid (HRR.out.pop (fun u hj => by
                        obtain ⟨s, h0, h3, hm⟩ := hj
                        obtain ⟨s', rfl⟩ := Int.eq_ofNat_of_zero_le h0
                        exact HMK.out s' (by omega) u hm)), hid (HPK.out.put HCUT.out), hid (by omega)⟩
      · obtain rfl : f = n := by omega
        obtain ⟨P, lst, hO, hp⟩ := HX.out
        have HO := hid hO
        have HPP := hid hp
        obtain ⟨c0, c1, c2, c3, ce, cd, fd, az, ez, dz⟩ := hp.cells
        clear HX hO hp
        go_wp2_with fail
        go_ret2
        exact ⟨by rw [← HA.out]; exact HPP.out.below, .inr ⟨trivial, G, P, rfl, by rw [← HA.out]; exact HPP.out.rg, HO.out.end (Nat.le_refl _)⟩⟩
  · have e0 : (e != 0) = true := by simpa using he
    clear hI hB h
    go_enter Try.func34, Try.ntmps34
    go_wp2_with fail
    refine (validate_any W H ao n cap Z bo m bcap Y hn hm _ HS.out.arms HS.out.ways e HV.out).mono ?_
    rintro r w1 ⟨rfl, hb1⟩
    have HS1 := hid (HS.out.stays hb1)
    clear hb1
    go_wp2_with fail
    go_ret2
    exact ⟨HS1.out.below, .inl ⟨he, rfl⟩⟩
end Go.Proofs.Ytaepiegbpgkciaa
