/-
  The walk of Flood of the reference.
-/
import Derived.Test.YtkpnngpnjimogaaWFld
namespace Go.Proofs.Ytkpnngpnjimogaa
open Go.RowKit

/-- What Flood answers. -/
def FOut (W H : Int) (n m q : Nat) (Z K Y : Nat → Int) (L : List Nat) (e : Int) : Prop :=
  (e ≠ 0 ∧ WErr W H n m q Z K Y e ∧ L = []) ∨ ∃ W' H' : Nat, W = W' ∧ H = H' ∧ Good W' H' n Z ∧ Fine W' H' m q Z K Y ∧ e = 0 ∧ L = fldK W' H' Z K m
theorem FOut.ex (W H : Int) (n m q : Nat) (Z K Y : Nat → Int) : ∃ L e, FOut W H n m q Z K Y L e := by
  obtain ⟨e, he⟩ := WErr.ex W H n m q Z K Y
  by_cases h0 : e = 0
  · subst h0
    obtain ⟨W', H', rfl, rfl, hg, hf⟩ := he.fine
    exact ⟨_, 0, .inr ⟨W', H', rfl, rfl, hg, hf, rfl, rfl⟩⟩
  · exact ⟨[], e, .inl ⟨h0, he, rfl⟩⟩
theorem FOut.len {W H : Int} {n m q : Nat} {Z K Y : Nat → Int} {L : List Nat} {e : Int} (h : FOut W H n m q Z K Y L e) : L.length ≤ 9223372036854775807 := by
  rcases h with ⟨_, _, rfl⟩ | ⟨W', H', _, _, hg, hf, _, rfl⟩
  · simp
  · have h1 := fldK_len W' H' Z K m
    have hsd := hg.side
    have hsm := mul_small hsd.2.1 hsd.2.2.2
    have := hf.len
    omega
theorem wflood_to (W H : Int) (ao ko bo : Option Addr) (n cap m kcap q bcap : Nat) (Z K Y : Nat → Int) (hn : n ≤ 4000) (hq : q ≤ 4000) (L : List Nat) (e : Int) (h : FOut W H n m q Z K Y L e) (w : World) (hI : Ints w ao n Z) (hK : Ints w ko m K) (hY : Ints w bo q Y) :
    Calls Try.prog 33 #[lv W H (.slice ao n cap), .agg #[.slice ko m kcap, .slice bo q bcap]] w (LstE L e w) := by
  rcases h with ⟨h0, h, rfl⟩ | ⟨W', H', rfl, rfl, hg, hf, rfl, rfl⟩
  · exact (flood_no W H ao ko bo n cap m kcap q bcap Z K Y hn hq e h h0 w hI hK hY).mono fun r w' ⟨hr, hb⟩ => by subst hr; exact lst_nil hb
  · obtain ⟨d, ⟨hW, hH, rfl, rfl, rfl⟩, ⟨rfl, rfl, rfl, rfl, rfl, rfl⟩, ⟨rfl, rfl, rfl⟩, hg', hf'⟩ := fine_wat cap kcap bcap (hg.werr hf.err) hI hK hY
    obtain rfl : W' = d.W := by omega
    obtain rfl : H' = d.H := by omega
    exact flood_yes d hg' hf' hq w hI hK hY

set_option maxRecDepth 20000 in
set_option maxHeartbeats 12800000 in
theorem refflood_to (W H : Int) (ao ko bo : Option Addr) (n cap m kcap q bcap : Nat) (Z K Y : Nat → Int) (hn : n ≤ 4000) (hq : q ≤ 4000) (L : List Nat) (e : Int) (h : FOut W H n m q Z K Y L e) (w : World) (hI : Ints w ao n Z) (hK : Ints w ko m K) (hY : Ints w bo q Y) :
    Calls Try.prog 34 #[lv W H (.slice ao n cap), .agg #[.slice ko m kcap, .slice bo q bcap]] w (LstE L e w) := by
  have HL := hid (LW.start (W := W) (H := H) (cap := cap) (kcap := kcap) (bcap := bcap) hI hK hY)
  have HI := hid hI
  have HK := hid hK
  have HY := hid hY
  have HIN := hid infoX
  clear hI hK hY
  rcases h with ⟨h0, h, rfl⟩ | ⟨W', H', rfl, rfl, hg, hf, rfl, rfl⟩
  · have HE : Hid (WErr W H n m q Z K Y e) := hid h
    have g1 : (e == 0) = false := by rw [beq_eq_false_iff_ne]; exact h0
    have g2 : (e != 0) = true := by simp [h0]
    clear h h0
    go_enter Try.func34, Try.ntmps34
    go_wp2_with (go_at_call 17; (refine (wrefvalidate_to W H ao ko bo n cap m kcap q bcap Z K Y hn hq e HE.out _ HL.out.land HL.out.kinds HL.out.buoys).mono ?_); rintro r w1 ⟨rfl, hb⟩; have HB1 := hid (HL.out.stays hb); clear hb)
    go_ret2
    exact lst_nil HB1.out.below
  · have HE := hid (hg.werr hf.err)
    have hsd := hg.side
    have hsm := mul_small hsd.2.1 hsd.2.2.2
    have hlen := hf.len
    have hSz : Sized W' H' := ⟨⟨by omega, by omega⟩, by omega, by omega⟩
    have hWH : (W' : Int) * (H' : Int) = ((W' * H' : Nat) : Int) := by simp
    have hm2 : m ≤ 1024 := by omega
    have HBY := hid (fun (t k : Nat) (ht : t < W' * H') (hk : k < 4) (b : Int) (hb : bey W' H' t k = b) w => refbeyond_any W' H' t k b hSz (by omega) (by rw [hWH]; omega) (by omega) (by omega) hb w)
    have HINN := hid (fun (t k n : Nat) (ht : t < W' * H') (hb : bey W' H' t k = n) => show n < W' * H' by have := bey_in hSz (t := (t : Int)) (s := k) (by omega) (by rw [hWH]; omega); rw [hWH, hb] at this; omega)
    have HG := hid hg
    have HF := hid hf
    clear hg hf hsd hsm hSz hWH hlen
    go_enter Try.func34, Try.ntmps34
    go_upto_region 1 with fail
    generalize World.alloc _ _ = wl at HL ⊢
    have c0 := HL.out.c0
    have c1 := HL.out.c1
    have c2 := HL.out.c2
    have c3 := HL.out.c3
    have c4 := HL.out.c4
    have hz := HL.out.size
    go_wp2_with (go_at_call 17; (refine (wrefvalidate_to W' H' ao ko bo n cap m kcap q bcap Z K Y hn hq 0 HE.out _ HL.out.land HL.out.kinds HL.out.buoys).mono ?_); rintro r wn ⟨rfl, hb⟩; have HLn := hid (HL.out.stays hb); clear hb c0 c1 c2 c3 c4 hz HL; have HL := HLn; clear HLn; have c0 := HL.out.c0; have c1 := HL.out.c1; have c2 := HL.out.c2; have c3 := HL.out.c3; have c4 := HL.out.c4; have hz := HL.out.size)
    have HX : Hid (RX W' H' ao ko bo n cap m kcap q bcap Z K Y [] (.slice none 0 0) w wn) := hid ⟨HL.out, by simpa [encN] using World.ownsRow_nil _ _ _ _⟩
    clear HL c0 c1 c2 c3 c4 hz
    go_loopw [7, 23] (fun lst iv wr => ∃ k : Nat, k ≤ m ∧ iv = .int .i64 k ∧ Hid (RX W' H' ao ko bo n cap m kcap q bcap Z K Y (fldK W' H' Z K k) lst w wr)) (fun _ iv _ => m - (intOf iv).toNat)
    case atStart => exact ⟨0, by omega, rfl, HX⟩
    case round =>
      clear HX
      obtain ⟨k, hk, rfl, HX⟩ := hrel
      have HL := hid HX.out.lw
      have c0 := HL.out.c0
      have c1 := HL.out.c1
      have c2 := HL.out.c2
      have c3 := HL.out.c3
      have c4 := HL.out.c4
      have hz := HL.out.size
      by_cases hlt : k < m
      · obtain ⟨kb, koff, rfl, hkz, k0⟩ := HL.out.kinds k hlt
        have hku : k < W' * H' := by rw [← HF.out.len]; exact hlt
        have HFC := hid (fun w hI => face_any W' H' ao n cap Z HG.out k hku w hI)
        have HSE := hid (fun w hI => sea_any W' H' ao n cap Z HG.out k hku w hI)
        have HKU := hid hku
        obtain ⟨z, hz0⟩ : ∃ z, z = K k := ⟨_, rfl⟩
        obtain ⟨s, hs⟩ : ∃ s, s = sea W' Z k := ⟨_, rfl⟩
        obtain ⟨b, hb⟩ : ∃ b, b = base W' Z k := ⟨_, rfl⟩
        obtain ⟨a, ha⟩ : ∃ b, b = slope W' Z k := ⟨_, rfl⟩
        have hfl : fld1 W' H' Z K k = (((decide (z = 0) && !s) && decide (b ≤ 2)) && ashK W' H' Z k 4) := by unfold fld1; rw [hz0, hs, hb]
        rw [show decide (top W' Z k ≤ 2) = s from hs.symm] at HSE
        rw [← hb, ← ha] at HFC
        rw [← hz0] at k0
        have HFL := hid hfl
        clear hz0 hs hb ha hku hfl
        by_cases h0 : z = 0
        · subst h0
          cases s
          · by_cases h2 : b ≤ 2
            · have hb2 : decide (b ≤ 2) = true := decide_eq_true h2
              rw [hb2] at HFL
              clear hb2
              go_wp2_with (first | (go_at_call 65; (refine (HFC.out _ HL.out.land).mono ?_); rintro r wn ⟨rfl, hb⟩; have HXn := hid (HX.out.stays hb); clear hb c0 c1 c2 c3 c4 hz HL HX; have HX := HXn; clear HXn; have HL := hid HX.out.lw; have c0 := HL.out.c0; have c1 := HL.out.c1; have c2 := HL.out.c2; have c3 := HL.out.c3; have c4 := HL.out.c4; have hz := HL.out.size) | (go_at_call 66; (refine (HSE.out _ HL.out.land).mono ?_); rintro r wn ⟨rfl, hb⟩; have HXn := hid (HX.out.stays hb); clear hb c0 c1 c2 c3 c4 hz HL HX; have HX := HXn; clear HXn; have HL := hid HX.out.lw; have c0 := HL.out.c0; have c1 := HL.out.c1; have c2 := HL.out.c2; have c3 := HL.out.c3; have c4 := HL.out.c4; have hz := HL.out.size))
              generalize u7 = lst0 at HX ⊢
              clear HL c0 c1 c2 c3 c4 hz k0 hkz HFC HSE
              go_loopw [7, 45] (fun lst iv wr => ∃ j : Nat, j ≤ 4 ∧ iv = .int .i64 j ∧ lst = lst0 ∧ Hid (ashK W' H' Z k j = false) ∧ Hid (RX W' H' ao (some ⟨kb, koff, none⟩) bo n cap m kcap q bcap Z K Y (fldK W' H' Z K k) lst0 w wr)) (fun _ iv _ => 4 - (intOf iv).toNat)
              case atStart => exact ⟨0, by omega, rfl, rfl, hid rfl, HX⟩
              case round =>
                clear HX
                obtain ⟨j, hj, rfl, rfl, HA, HX⟩ := hrel
                have HL := hid HX.out.lw
                have c0 := HL.out.c0
                have c1 := HL.out.c1
                have c2 := HL.out.c2
                have c3 := HL.out.c3
                have c4 := HL.out.c4
                have hz := HL.out.size
                by_cases hj4 : j < 4
                · obtain ⟨x, hx⟩ : ∃ x, bey W' H' k j = x := ⟨_, rfl⟩
                  have HBK := hid (HBY.out k j HKU.out hj4 x hx)
                  by_cases hx0 : x < 0
                  · have HN := hid (ashK_off HA.out (by rw [hx]; exact hx0))
                    clear hx
                    go_wp2_with (go_at_call 25; (refine (HBK.out _).mono ?_); rintro r wn ⟨rfl, hb⟩; have HXn := hid (HX.out.stays hb); clear hb c0 c1 c2 c3 c4 hz HL HX; have HX := HXn; clear HXn; have HL := hid HX.out.lw; have c0 := HL.out.c0; have c1 := HL.out.c1; have c2 := HL.out.c2; have c3 := HL.out.c3; have c4 := HL.out.c4; have hz := HL.out.size)
                    exact ⟨⟨j + 1, by omega, by go_num, rfl, HN, HX⟩, by simp [intOf]; omega⟩
                  · obtain ⟨y, rfl⟩ : ∃ y : Nat, x = y := ⟨x.toNat, by omega⟩
                    have hyu := HINN.out k j y HKU.out hx
                    have HSN := hid (fun w hI => sea_any W' H' ao n cap Z HG.out y hyu w hI)
                    obtain ⟨sy, hsy⟩ : ∃ s, s = sea W' Z y := ⟨_, rfl⟩
                    rw [show decide (top W' Z y ≤ 2) = sy from hsy.symm] at HSN
                    cases sy
                    · have HN := hid (ashK_dry HA.out hx hsy.symm)
                      clear hx hyu hsy
                      go_wp2_with (first | (go_at_call 25; (refine (HBK.out _).mono ?_); rintro r wn ⟨rfl, hb⟩; have HXn := hid (HX.out.stays hb); clear hb c0 c1 c2 c3 c4 hz HL HX; have HX := HXn; clear HXn; have HL := hid HX.out.lw; have c0 := HL.out.c0; have c1 := HL.out.c1; have c2 := HL.out.c2; have c3 := HL.out.c3; have c4 := HL.out.c4; have hz := HL.out.size) | (go_at_call 66; (refine (HSN.out _ HL.out.land).mono ?_); rintro r wn ⟨rfl, hb⟩; have HXn := hid (HX.out.stays hb); clear hb c0 c1 c2 c3 c4 hz HL HX; have HX := HXn; clear HXn; have HL := hid HX.out.lw; have c0 := HL.out.c0; have c1 := HL.out.c1; have c2 := HL.out.c2; have c3 := HL.out.c3; have c4 := HL.out.c4; have hz := HL.out.size))
                      exact ⟨⟨j + 1, by omega, by go_num, rfl, HN, HX⟩, by simp [intOf]; omega⟩
                    · have hy := fldK_yes (HFL.out.trans (by rw [ashK_sea hj4 hx hsy.symm]; rfl))
                      have HN := hid hy
                      have hlen := fldK_len W' H' Z K k
                      clear hx hyu hsy hy
                      go_wp2_with (first | (go_at_call 25; (refine (HBK.out _).mono ?_); rintro r wn ⟨rfl, hb⟩; have HXn := hid (HX.out.stays hb); clear hb c0 c1 c2 c3 c4 hz HL HX; have HX := HXn; clear HXn; have HL := hid HX.out.lw; have c0 := HL.out.c0; have c1 := HL.out.c1; have c2 := HL.out.c2; have c3 := HL.out.c3; have c4 := HL.out.c4; have hz := HL.out.size) | (go_at_call 66; (refine (HSN.out _ HL.out.land).mono ?_); rintro r wn ⟨rfl, hb⟩; have HXn := hid (HX.out.stays hb); clear hb c0 c1 c2 c3 c4 hz HL HX; have HX := HXn; clear HXn; have HL := hid HX.out.lw; have c0 := HL.out.c0; have c1 := HL.out.c1; have c2 := HL.out.c2; have c3 := HL.out.c3; have c4 := HL.out.c4; have hz := HL.out.size) | (at_builtin; obtain ⟨i0, HIN'⟩ := HIN.out; refine wpList_append_own _ rfl _ _ 22 rfl (w.heap.size + 2) 3 i0 (.int .i64 0) 1 8 Try.underlying22 HIN'.1 HIN'.2.1 HIN'.2.2.1 HIN'.2.2.2 rfl (by decide) _ _ _ rfl (HX.out.row.alloc _) ⟨wn.heap.size, 0, none⟩ 1 1 [.int .i64 k] rfl rfl ?c1 ?c2 ?c3 ?c4 ?c5 ?_))
                      case c1 =>
                        intro j u hj
                        match j, hj with
                        | 0, hj => simp at hj; subst hj; simp [Addr.add]
                      case c2 => intro u hu; simp at hu; subst hu; rfl
                      case c3 => unfold maxLen; omega
                      case c4 => omega
                      case c5 => simp; omega
                      intro v' w6 hown hgrow _
                      have HX6 := hid (HX.out.app (x := k) hown _ hgrow HI.out HK.out HY.out)
                      clear hown hgrow
                      go_wp2_with fail
                      exact ⟨⟨k + 1, by omega, by go_num, hid (by rw [HN.out]; exact HX6.out)⟩, by simp [intOf]; omega⟩
                · obtain rfl : j = 4 := by omega
                  have hn := fldK_no (HFL.out.trans (by rw [HA.out]; rfl))
                  have HN := hid hn
                  clear hn
                  go_wp2_with fail
                  exact ⟨⟨k + 1, by omega, by go_num, hid (by rw [HN.out]; exact HX.out)⟩, by simp [intOf]; omega⟩
            · have hb2 : decide (b ≤ 2) = false := decide_eq_false h2
              have hn := fldK_no (HFL.out.trans (by rw [hb2]; simp))
              have HN := hid hn
              have h2' : 2 < b := by omega
              clear hn hb2
              go_wp2_with (first | (go_at_call 65; (refine (HFC.out _ HL.out.land).mono ?_); rintro r wn ⟨rfl, hb⟩; have HXn := hid (HX.out.stays hb); clear hb c0 c1 c2 c3 c4 hz HL HX; have HX := HXn; clear HXn; have HL := hid HX.out.lw; have c0 := HL.out.c0; have c1 := HL.out.c1; have c2 := HL.out.c2; have c3 := HL.out.c3; have c4 := HL.out.c4; have hz := HL.out.size) | (go_at_call 66; (refine (HSE.out _ HL.out.land).mono ?_); rintro r wn ⟨rfl, hb⟩; have HXn := hid (HX.out.stays hb); clear hb c0 c1 c2 c3 c4 hz HL HX; have HX := HXn; clear HXn; have HL := hid HX.out.lw; have c0 := HL.out.c0; have c1 := HL.out.c1; have c2 := HL.out.c2; have c3 := HL.out.c3; have c4 := HL.out.c4; have hz := HL.out.size))
              go_roundw
              case rel => exact ⟨k + 1, by omega, by go_num, hid (by rw [HN.out]; exact HX.out)⟩
              case measure => simp [intOf]; omega
          · have hn := fldK_no (HFL.out.trans (by simp))
            have HN := hid hn
            clear hn
            go_wp2_with (first | (go_at_call 65; (refine (HFC.out _ HL.out.land).mono ?_); rintro r wn ⟨rfl, hb⟩; have HXn := hid (HX.out.stays hb); clear hb c0 c1 c2 c3 c4 hz HL HX; have HX := HXn; clear HXn; have HL := hid HX.out.lw; have c0 := HL.out.c0; have c1 := HL.out.c1; have c2 := HL.out.c2; have c3 := HL.out.c3; have c4 := HL.out.c4; have hz := HL.out.size) | (go_at_call 66; (refine (HSE.out _ HL.out.land).mono ?_); rintro r wn ⟨rfl, hb⟩; have HXn := hid (HX.out.stays hb); clear hb c0 c1 c2 c3 c4 hz HL HX; have HX := HXn; clear HXn; have HL := hid HX.out.lw; have c0 := HL.out.c0; have c1 := HL.out.c1; have c2 := HL.out.c2; have c3 := HL.out.c3; have c4 := HL.out.c4; have hz := HL.out.size))
            go_roundw
            case rel => exact ⟨k + 1, by omega, by go_num, hid (by rw [HN.out]; exact HX.out)⟩
            case measure => simp [intOf]; omega
        · have hn := fldK_no (HFL.out.trans (by simp [h0]))
          have HN := hid hn
          have g1 : (z == 0) = false := by simpa using h0
          have g2 : (z != 0) = true := by simpa using h0
          clear hn
          go_wp2_with (first | (go_at_call 65; (refine (HFC.out _ HL.out.land).mono ?_); rintro r wn ⟨rfl, hb⟩; have HXn := hid (HX.out.stays hb); clear hb c0 c1 c2 c3 c4 hz HL HX; have HX := HXn; clear HXn; have HL := hid HX.out.lw; have c0 := HL.out.c0; have c1 := HL.out.c1; have c2 := HL.out.c2; have c3 := HL.out.c3; have c4 := HL.out.c4; have hz := HL.out.size) | (go_at_call 66; (refine (HSE.out _ HL.out.land).mono ?_); rintro r wn ⟨rfl, hb⟩; have HXn := hid (HX.out.stays hb); clear hb c0 c1 c2 c3 c4 hz HL HX; have HX := HXn; clear HXn; have HL := hid HX.out.lw; have c0 := HL.out.c0; have c1 := HL.out.c1; have c2 := HL.out.c2; have c3 := HL.out.c3; have c4 := HL.out.c4; have hz := HL.out.size))
          go_roundw
          case rel => exact ⟨k + 1, by omega, by go_num, hid (by rw [HN.out]; exact HX.out)⟩
          case measure => simp [intOf]; omega
      · obtain rfl : k = m := by omega
        obtain ⟨la, lc, rfl⟩ := row_slice HX.out.row
        go_wp2_with fail
        go_ret2
        exact ⟨la, lc, rfl, row_mono HX.out.row (by omega), HX.out.lw.below⟩
end Go.Proofs.Ytkpnngpnjimogaa
