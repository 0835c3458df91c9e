/-
  The walks of ashore and of Flood of the program.
-/
import Derived.Test.YtkpnngpnjimogaaWRNext
namespace Go.Proofs.Ytkpnngpnjimogaa
open Go.RowKit

/-- Whether beyond one of the first k sides of a tile lies the sea. -/
def ashK (W H : Nat) (Z : Nat → Int) (t k : Nat) : Bool := (List.range k).any fun i => decide (0 ≤ bey W H t i) && sea W Z (bey W H t i).toNat
theorem ashK_succ (W H : Nat) (Z : Nat → Int) (t k : Nat) : ashK W H Z t (k + 1) = (ashK W H Z t k || (decide (0 ≤ bey W H t k) && sea W Z (bey W H t k).toNat)) := by
  unfold ashK; rw [List.range_succ, List.any_append]; simp
theorem ashK_off {W H : Nat} {Z : Nat → Int} {t k : Nat} (h : ashK W H Z t k = false) (hb : bey W H t k < 0) : ashK W H Z t (k + 1) = false := by
  rw [ashK_succ, h, show decide (0 ≤ bey W H t k) = false by simp; omega]; rfl
theorem ashK_dry {W H : Nat} {Z : Nat → Int} {t k n : Nat} (h : ashK W H Z t k = false) (hb : bey W H t k = n) (hs : sea W Z n = false) : ashK W H Z t (k + 1) = false := by
  rw [ashK_succ, h, hb, Int.toNat_natCast, hs]; simp
theorem ashK_sea {W H : Nat} {Z : Nat → Int} {t k n : Nat} (hk : k < 4) (hb : bey W H t k = n) (hs : sea W Z n = true) : ashK W H Z t 4 = true := by
  unfold ashK
  rw [List.any_eq_true]
  exact ⟨k, List.mem_range.2 hk, by rw [hb, Int.toNat_natCast, hs]; simp⟩

set_option maxRecDepth 20000 in
set_option maxHeartbeats 3200000 in
theorem ashore_any (d : Wat) (hg : Good d.W d.H d.n d.Z) (M t : Nat) (ht : t < d.W * d.H) (r : Bool) (hr : r = ashK d.W d.H d.Z t 4) (w : World) (hC : Cx d M w) :
    Calls Try.prog 64 #[d.cht M, .int .i64 t] w fun e w' => e = .returned (.bool r) ∧ Nx d M w w' := by
  have hsd := hg.side
  have hsm := mul_small hsd.2.1 hsd.2.2.2
  have hSz : Sized d.W d.H := ⟨⟨by omega, by omega⟩, by omega, by omega⟩
  have hWH : (d.W : Int) * (d.H : Int) = ((d.W * d.H : Nat) : Int) := by simp
  have htz : (t : Int) < (d.W : Int) * (d.H : Int) := by rw [hWH]; omega
  have ht2 : t ≤ 1024 := by omega
  have HBY := hid (fun (k : Nat) (hk : k < 4) (b : Int) (hb : bey d.W d.H t k = b) w => cbeyond_any d.W d.H t k b d.as d.ks d.bs (.map (some M)) hSz (by omega) htz (by omega) (by omega) hb w)
  have HIN := hid (fun (k n : Nat) (hb : bey d.W d.H t k = n) => show n < d.W * d.H by have := bey_in hSz (t := (t : Int)) (s := k) (by omega) htz (by omega); rw [hWH, hb] at this; omega)
  have HG := hid hg
  have HR := hid hr
  have HV := hid (CB.start hC)
  obtain ⟨A, hA⟩ : ∃ A, A = w.heap.size := ⟨_, rfl⟩
  have HA := hid hA
  clear hg hC hsd hsm hSz hWH htz ht hr
  go_enter Try.func64, Try.ntmps64
  go_wp2_with fail
  simp only [← hA]
  generalize World.alloc _ _ = wv at HV ⊢
  clear hA
  have hf := field_sea
  go_loopw [7] (fun iv wr => ∃ k : Nat, k ≤ 4 ∧ iv = .int .i64 k ∧ Hid (ashK d.W d.H d.Z t k = false) ∧ Hid (CB d M w wr)) (fun iv _ => 4 - (intOf iv).toNat)
  case atStart => exact ⟨0, by omega, rfl, hid rfl, HV⟩
  case round =>
    clear HV
    obtain ⟨k, hk, rfl, HK, HT⟩ := hrel
    have c0 := HT.out.c0
    have c1 := HT.out.c1
    have c2 := HT.out.c2
    have c3 := HT.out.c3
    have c4 := HT.out.c4
    have c5 := HT.out.c5
    have hz := HT.out.size
    rw [← HA.out] at c0 c1 c2 c3 c4 c5 hz
    by_cases hlt : k < 4
    · by_cases hb : bey d.W d.H t k < 0
      · obtain ⟨b, hbe⟩ : ∃ b, bey d.W d.H t k = b := ⟨_, rfl⟩
        have HBK := hid (HBY.out k hlt b hbe)
        have HN := hid (ashK_off HK.out hb)
        rw [hbe] at hb
        clear hbe
        go_wp2_with (go_at_call 79; (refine (HBK.out _).mono ?_); rintro e w4 ⟨rfl, hb'⟩; have HT2 := hid (HT.out.on (HT.out.cx.go hb')); clear hb')
        go_roundw
        case rel => exact ⟨k + 1, by omega, by go_num, HN, HT2⟩
        case measure => simp [intOf]; omega
      · obtain ⟨n, hn⟩ : ∃ n : Nat, bey d.W d.H t k = n := ⟨(bey d.W d.H t k).toNat, by omega⟩
        have HBK := hid (HBY.out k hlt n hn)
        have HLK := hid (fun w hC => look_any d HG.out M n (HIN.out k n hn) w hC)
        obtain ⟨q, hq⟩ : ∃ q, q = sea d.W d.Z n := ⟨_, rfl⟩
        unfold gnd at HLK
        rw [← hq] at HLK
        have HQ := hid hq
        have HN := hid hn
        clear hq hn hb
        cases q
        · have HN := hid (ashK_dry HK.out HN.out HQ.out.symm)
          go_wp2_with (first
            | (go_at_call 79; (refine (HBK.out _).mono ?_); rintro e w4 ⟨rfl, hb'⟩; have HT2 := hid (HT.out.on (HT.out.cx.go hb')); clear hb' HT c0 c1 c2 c3 c4 c5 hz; have HT := HT2; clear HT2; have c0 := HT.out.c0; have c1 := HT.out.c1; have c2 := HT.out.c2; have c3 := HT.out.c3; have c4 := HT.out.c4; have c5 := HT.out.c5; have hz := HT.out.size; rw [← HA.out] at c0 c1 c2 c3 c4 c5 hz)
            | (go_at_call 51; (refine (HLK.out _ HT.out.cx).mono ?_); rintro e w4 ⟨rfl, hn⟩; have HT3 := hid (HT.out.on hn); clear hn))
          go_roundw
          case rel => exact ⟨k + 1, by omega, by go_num, HN, HT3⟩
          case measure => simp [intOf]; omega
        · obtain rfl : r = true := HR.out.trans (ashK_sea hlt HN.out HQ.out.symm)
          go_wp2_with (first
            | (go_at_call 79; (refine (HBK.out _).mono ?_); rintro e w4 ⟨rfl, hb'⟩; have HT2 := hid (HT.out.on (HT.out.cx.go hb')); clear hb' HT c0 c1 c2 c3 c4 c5 hz; have HT := HT2; clear HT2; have c0 := HT.out.c0; have c1 := HT.out.c1; have c2 := HT.out.c2; have c3 := HT.out.c3; have c4 := HT.out.c4; have c5 := HT.out.c5; have hz := HT.out.size; rw [← HA.out] at c0 c1 c2 c3 c4 c5 hz)
            | (go_at_call 51; (refine (HLK.out _ HT.out.cx).mono ?_); rintro e w4 ⟨rfl, hn⟩; have HT3 := hid (HT.out.on hn); clear hn))
          go_ret
          exact ⟨rfl, HT3.out.nx⟩
    · obtain rfl : k = 4 := by omega
      obtain rfl : r = false := HR.out.trans HK.out
      go_wp2_with fail
      go_ret
      exact ⟨rfl, HT.out.nx⟩

/-- Whether Flood names a tile; those of the first k that it names. -/
def fld1 (W H : Nat) (Z K : Nat → Int) (i : Nat) : Bool := ((decide (K i = 0) && !sea W Z i) && decide (base W Z i ≤ 2)) && ashK W H Z i 4
def fldK (W H : Nat) (Z K : Nat → Int) (k : Nat) : List Nat := (List.range k).filter (fld1 W H Z K)
theorem fldK_yes {W H : Nat} {Z K : Nat → Int} {k : Nat} (h : fld1 W H Z K k = true) : fldK W H Z K (k + 1) = fldK W H Z K k ++ [k] := by
  unfold fldK; rw [List.range_succ, List.filter_append]; simp [h]
theorem fldK_no {W H : Nat} {Z K : Nat → Int} {k : Nat} (h : fld1 W H Z K k = false) : fldK W H Z K (k + 1) = fldK W H Z K k := by
  unfold fldK; rw [List.range_succ, List.filter_append]; simp [h]
theorem fldK_len (W H : Nat) (Z K : Nat → Int) (k : Nat) : (fldK W H Z K k).length ≤ k := Nat.le_trans (List.length_filter_le _ _) (by simp)

set_option maxRecDepth 20000 in
set_option maxHeartbeats 12800000 in
theorem flood_yes (d : Wat) (hg : Good d.W d.H d.n d.Z) (hf : Fine d.W d.H d.m d.q d.Z d.K d.Y) (hq : d.q ≤ 4000) (w : World) (hl : Ints w (some ⟨d.ab, d.aoff, none⟩) d.n d.Z) (hk : Ints w (some ⟨d.kb, d.koff, none⟩) d.m d.K) (hb : Ints w d.bo d.q d.Y) :
    Calls Try.prog 33 #[d.lnd, d.wts] w (LstE (fldK d.W d.H d.Z d.K d.m) 0 w) := by
  have HL := hid (LW.start (W := d.W) (H := d.H) (cap := d.cap) (kcap := d.kcap) (bcap := d.bcap) hl hk hb)
  have hsd := hg.side
  have hsm := mul_small hsd.2.1 hsd.2.2.2
  have hlen := hf.len
  have HG := hid hg
  have HF := hid hf
  have HIN := hid infoX
  have hm2 : d.m ≤ 1024 := by omega
  clear hl hk hb hg hf hsd hsm hlen
  go_enter Try.func33, Try.ntmps33
  go_upto_region 2 with (go_at_call 40; (refine (survey_yes d HG.out HF.out hq _ HL.out.land HL.out.kinds HL.out.buoys).mono ?_); rintro r w1 ⟨M, rfl, hb, hM, hC⟩; have HT := hid (TB.start HL.out hb hM hC); clear hb hM hC)
  generalize World.alloc _ _ = wt1 at HT ⊢
  have c0 := HT.out.cb.c0
  have c1 := HT.out.cb.c1
  have c2 := HT.out.cb.c2
  have c3 := HT.out.cb.c3
  have c4 := HT.out.cb.c4
  have c5 := HT.out.cb.c5
  have hz := HT.out.cb.size
  have a3 : wt1.cell? ⟨w.heap.size + 1, 0, none⟩ = some (.slice (some ⟨d.kb, d.koff, none⟩) d.m d.kcap) := HT.out.a3
  have az : w.heap.size + 1 < wt1.heap.size := by have := HT.out.size; omega
  go_wp2_with fail
  clear a3 az
  have HX : Hid (NX d M [] (.slice none 0 0) w w1 wt1) := hid ⟨HT.out, by simpa [encN] using World.ownsRow_nil _ _ _ _⟩
  clear HT c0 c1 c2 c3 c4 c5 hz
  go_loopw [8, 24] (fun lst iv wr => ∃ k : Nat, k ≤ d.m ∧ iv = .int .i64 k ∧ Hid (NX d M (fldK d.W d.H d.Z d.K k) lst w w1 wr)) (fun _ iv _ => d.m - (intOf iv).toNat)
  case atStart => exact ⟨0, by omega, rfl, HX⟩
  case round =>
    clear HX
    obtain ⟨k, hk, rfl, HX⟩ := hrel
    have HT := hid HX.out.tb
    have c0 := HT.out.cb.c0
    have c1 := HT.out.cb.c1
    have c2 := HT.out.cb.c2
    have c3 := HT.out.cb.c3
    have c4 := HT.out.cb.c4
    have c5 := HT.out.cb.c5
    have hz := HT.out.cb.size
    by_cases hlt : k < d.m
    · obtain ⟨kb, koff, hke, hkz, k0⟩ := HT.out.cb.cx.kinds k hlt
      have hke' := Option.some.inj hke
      injection hke' with hk1 hk2
      subst hk1
      subst hk2
      clear hke
      have hku : k < d.W * d.H := by rw [← HF.out.len]; exact hlt
      have HLK := hid (fun w hC => look_any d HG.out M k hku w hC)
      obtain ⟨z, hz0⟩ : ∃ z, z = d.K k := ⟨_, rfl⟩
      obtain ⟨s, hs⟩ : ∃ s, s = sea d.W d.Z k := ⟨_, rfl⟩
      obtain ⟨b, hb⟩ : ∃ b, b = gba d.W d.Z k := ⟨_, rfl⟩
      obtain ⟨a, ha⟩ : ∃ b, b = gsl d.W d.Z k := ⟨_, rfl⟩
      obtain ⟨r, hr⟩ : ∃ r, r = ashK d.W d.H d.Z k 4 := ⟨_, rfl⟩
      have HAS := hid (fun w hC => ashore_any d HG.out M k hku r hr w hC)
      have hfl : fld1 d.W d.H d.Z d.K k = (((decide (z = 0) && !s) && decide (base d.W d.Z k ≤ 2)) && r) := by unfold fld1; rw [hz0, hs, hr]
      have hbb : s = false → b = base d.W d.Z k := fun h => by rw [hb]; unfold gba; rw [← hs, h]; rfl
      rw [← hz0] at k0
      unfold gnd at HLK
      rw [← hs, ← hb, ← ha] at HLK
      have HFL := hid hfl
      have HBB := hid hbb
      clear hz0 hs hb ha hr hku hfl hbb
      by_cases h0 : z = 0
      · subst h0
        cases s
        · by_cases h2 : b ≤ 2
          · have hb2 : decide (base d.W d.Z k ≤ 2) = true := by rw [← HBB.out rfl]; exact decide_eq_true h2
            cases r
            · have hn := fldK_no (HFL.out.trans (by simp))
              have HN := hid hn
              clear hn hb2
              go_wp2_with (first | (go_at_call 51; (refine (HLK.out _ HT.out.cb.cx).mono ?_); rintro e wn ⟨rfl, hn⟩; have HX1 := hid (HX.out.on hn); clear hn HT HX c0 c1 c2 c3 c4 c5 hz k0 hkz; have HT := hid HX1.out.tb; have c0 := HT.out.cb.c0; have c1 := HT.out.cb.c1; have c2 := HT.out.cb.c2; have c3 := HT.out.cb.c3; have c4 := HT.out.cb.c4; have c5 := HT.out.cb.c5; have hz := HT.out.cb.size; have HXA := hid (HX1.out.on (HX1.out.tb.cb.cx.go (Joins.below_alloc1 _ (.cells #[.bool false, .int .i64 a, .int .i64 b] 64))))) | (go_at_call 64; (refine (HAS.out _ HXA.out.tb.cb.cx).mono ?_); rintro e wn2 ⟨rfl, hn⟩; have HX3 := hid (HXA.out.on hn); clear hn; have hz2 := HX3.out.tb.ge))
              go_roundw
              case rel => exact ⟨k + 1, by omega, by go_num, hid (by rw [HN.out]; exact HX3.out)⟩
              case measure => simp [intOf]; omega
            · have hn := fldK_yes (HFL.out.trans (by rw [hb2]; rfl))
              have HN := hid hn
              have hlen := fldK_len d.W d.H d.Z d.K k
              clear hn hb2
              go_wp2_with (first | (go_at_call 51; (refine (HLK.out _ HT.out.cb.cx).mono ?_); rintro e wn ⟨rfl, hn⟩; have HX1 := hid (HX.out.on hn); clear hn HT HX c0 c1 c2 c3 c4 c5 hz k0 hkz; have HT := hid HX1.out.tb; have c0 := HT.out.cb.c0; have c1 := HT.out.cb.c1; have c2 := HT.out.cb.c2; have c3 := HT.out.cb.c3; have c4 := HT.out.cb.c4; have c5 := HT.out.cb.c5; have hz := HT.out.cb.size; have HXA := hid (HX1.out.on (HX1.out.tb.cb.cx.go (Joins.below_alloc1 _ (.cells #[.bool false, .int .i64 a, .int .i64 b] 64))))) | (go_at_call 64; (refine (HAS.out _ HXA.out.tb.cb.cx).mono ?_); rintro e wn2 ⟨rfl, hn⟩; have HX3 := hid (HXA.out.on hn); clear hn; have hz2 := HX3.out.tb.ge) | (at_builtin; obtain ⟨i0, HIN'⟩ := HIN.out; refine wpList_append_own _ rfl _ _ 22 rfl (w1.heap.size + 1) 3 i0 (.int .i64 0) 1 8 Try.underlying22 HIN'.1 HIN'.2.1 HIN'.2.2.1 HIN'.2.2.2 rfl (by decide) _ _ _ rfl (HX3.out.row.alloc _) ⟨wn2.heap.size, 0, none⟩ 1 1 [.int .i64 k] rfl rfl ?c1 ?c2 ?c3 ?c4 ?c5 ?_))
              case c1 =>
                intro j u hj
                match j, hj with
                | 0, hj => simp at hj; subst hj; simp [Addr.add]
              case c2 => intro u hu; simp at hu; subst hu; rfl
              case c3 => unfold maxLen; omega
              case c4 => omega
              case c5 => simp; omega
              intro v' w6 hown hgrow _
              have HX6 := hid (HX3.out.app (x := k) hown _ hgrow)
              clear hown hgrow
              go_wp2_with fail
              go_roundw
              case rel => exact ⟨k + 1, by omega, by go_num, hid (by rw [HN.out]; exact HX6.out)⟩
              case measure => simp [intOf]; omega
          · have hb2 : decide (base d.W d.Z k ≤ 2) = false := by rw [← HBB.out rfl]; exact decide_eq_false h2
            have hn := fldK_no (HFL.out.trans (by rw [hb2]; simp))
            have HN := hid hn
            have h2' : 2 < b := by omega
            clear hn hb2
            go_wp2_with (go_at_call 51; (refine (HLK.out _ HT.out.cb.cx).mono ?_); rintro e wn ⟨rfl, hn⟩; have HX1 := hid (HX.out.on hn); clear hn HT HX c0 c1 c2 c3 c4 c5 hz k0 hkz; have HT := hid HX1.out.tb; have c0 := HT.out.cb.c0; have c1 := HT.out.cb.c1; have c2 := HT.out.cb.c2; have c3 := HT.out.cb.c3; have c4 := HT.out.cb.c4; have c5 := HT.out.cb.c5; have hz := HT.out.cb.size; have HXA := hid (HX1.out.on (HX1.out.tb.cb.cx.go (Joins.below_alloc1 _ (.cells #[.bool false, .int .i64 a, .int .i64 b] 64)))))
            go_roundw
            case rel => exact ⟨k + 1, by omega, by go_num, hid (by rw [HN.out]; exact HXA.out)⟩
            case measure => simp [intOf]; omega
        · have hn := fldK_no (HFL.out.trans (by simp))
          have HN := hid hn
          clear hn
          go_wp2_with (go_at_call 51; (refine (HLK.out _ HT.out.cb.cx).mono ?_); rintro e wn ⟨rfl, hn⟩; have HX1 := hid (HX.out.on hn); clear hn HT HX c0 c1 c2 c3 c4 c5 hz k0 hkz; have HT := hid HX1.out.tb; have c0 := HT.out.cb.c0; have c1 := HT.out.cb.c1; have c2 := HT.out.cb.c2; have c3 := HT.out.cb.c3; have c4 := HT.out.cb.c4; have c5 := HT.out.cb.c5; have hz := HT.out.cb.size; have HXA := hid (HX1.out.on (HX1.out.tb.cb.cx.go (Joins.below_alloc1 _ (.cells #[.bool true, .int .i64 a, .int .i64 b] 64)))))
          go_roundw
          case rel => exact ⟨k + 1, by omega, by go_num, hid (by rw [HN.out]; exact HXA.out)⟩
          case measure => simp [intOf]; omega
      · have hn := fldK_no (HFL.out.trans (by simp [h0]))
        have HN := hid hn
        have g1 : (z == 0) = false := by simpa using h0
        clear hn
        go_wp2_with (go_at_call 51; (refine (HLK.out _ HT.out.cb.cx).mono ?_); rintro e wn ⟨rfl, hn⟩; have HX1 := hid (HX.out.on hn); clear hn HT HX c0 c1 c2 c3 c4 c5 hz k0 hkz; have HT := hid HX1.out.tb; have c0 := HT.out.cb.c0; have c1 := HT.out.cb.c1; have c2 := HT.out.cb.c2; have c3 := HT.out.cb.c3; have c4 := HT.out.cb.c4; have c5 := HT.out.cb.c5; have hz := HT.out.cb.size; have HXA := hid (HX1.out.on (HX1.out.tb.cb.cx.go (Joins.below_alloc1 _ (.cells #[.bool s, .int .i64 a, .int .i64 b] 64)))))
        go_roundw
        case rel => exact ⟨k + 1, by omega, by go_num, hid (by rw [HN.out]; exact HXA.out)⟩
        case measure => simp [intOf]; omega
    · obtain rfl : k = d.m := by omega
      obtain ⟨la, lc, rfl⟩ := row_slice HX.out.row
      go_wp2_with fail
      go_ret2
      exact ⟨la, lc, rfl, row_mono HX.out.row (by have := HX.out.tb.size; omega), HX.out.tb.below⟩
end Go.Proofs.Ytkpnngpnjimogaa
