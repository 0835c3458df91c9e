/-
  The walks of Next of the reference, of what tells lists of numbers alike.
-/
import Derived.Test.YtkpnngpnjimogaaWNext
namespace Go.Proofs.Ytkpnngpnjimogaa
open Go.RowKit

/-- What Next answers. -/
def NOut (W H : Int) (n m q : Nat) (Z K Y : Nat → Int) (t fr : Int) (L : List Nat) (e : Int) : Prop :=
  (e ≠ 0 ∧ WErr W H n m q Z K Y e ∧ L = []) ∨ ∃ W' H' : Nat, W = W' ∧ H = H' ∧ Good W' H' n Z ∧ Fine W' H' m q Z K Y ∧ NI W' H' Z K t fr L e
theorem NOut.ex (W H : Int) (n m q : Nat) (Z K Y : Nat → Int) (t fr : Int) : ∃ L e, NOut W H n m q Z K Y t fr L e := by
  obtain ⟨e, he⟩ := WErr.ex W H n m q Z K Y
  by_cases h0 : e = 0
  · subst h0
    obtain ⟨W', H', rfl, rfl, hg, hf⟩ := he.fine
    obtain ⟨L, e, h⟩ := NI.ex W' H' Z K t fr
    exact ⟨L, e, .inr ⟨W', H', rfl, rfl, hg, hf, h⟩⟩
  · exact ⟨[], e, .inl ⟨h0, he, rfl⟩⟩
theorem wnext_to (W H : Int) (ao ko bo : Option Addr) (n cap m kcap q bcap : Nat) (Z K Y : Nat → Int) (hn : n ≤ 4000) (hq : q ≤ 4000) (t fr : Int) (L : List Nat) (e : Int) (h : NOut W H n m q Z K Y t fr L e) (w : World) (hI : Ints w ao n Z) (hK : Ints w ko m K) (hY : Ints w bo q Y) :
    Calls Try.prog 26 #[lv W H (.slice ao n cap), .agg #[.slice ko m kcap, .slice bo q bcap], .int .i64 t, .int .i64 fr] w (LstE L e w) := by
  rcases h with ⟨h0, h, rfl⟩ | ⟨W', H', rfl, rfl, hg, hf, h⟩
  · exact (next_no W H ao ko bo n cap m kcap q bcap Z K Y hn hq t fr e h h0 w hI hK hY).mono fun r w' ⟨hr, hb⟩ => by subst hr; exact lst_nil hb
  · obtain ⟨d, ⟨hW, hH, rfl, rfl, rfl⟩, ⟨rfl, rfl, rfl, rfl, rfl, rfl⟩, ⟨rfl, rfl, rfl⟩, hg', hf'⟩ := fine_wat cap kcap bcap (hg.werr hf.err) hI hK hY
    obtain rfl : W' = d.W := by omega
    obtain rfl : H' = d.H := by omega
    exact next_yes d hg' hf' hq t fr L e h w hI hK hY

/-- The memory of a search of the reference for a list. -/
structure RX (W H : Int) (ao ko bo : Option Addr) (n cap m kcap q bcap : Nat) (Z K Y : Nat → Int) (L : List Nat) (lst : Value) (w wr : World) : Prop where
  lw : LW W H ao ko bo n cap m kcap q bcap Z K Y w wr
  row : wr.ownsRow (w.heap.size + 2) 3 1 lst L.length (encN L)
section
variable {W H : Int} {ao ko bo : Option Addr} {n cap m kcap q bcap : Nat} {Z K Y : Nat → Int} {L : List Nat} {lst lst' : Value} {w wr w' : World}
theorem RX.stays (h : RX W H ao ko bo n cap m kcap q bcap Z K Y L lst w wr) (k : Below wr.heap.size wr w') : RX W H ao ko bo n cap m kcap q bcap Z K Y L lst w w' := ⟨h.lw.stays k, row_stays h.row k⟩
theorem LW.lift {B : Nat} (h : LW W H ao ko bo n cap m kcap q bcap Z K Y w wr) (k : Below B wr w') (hB : w.heap.size + 1 < B) (hI : Ints w ao n Z) (hK : Ints w ko m K) (hY : Ints w bo q Y) : LW W H ao ko bo n cap m kcap q bcap Z K Y w w' := by
  have hb : Below w.heap.size w w' := h.below.trans (k.mono (by omega))
  have e : ∀ (a i : Nat), a ≤ w.heap.size + 1 → w'.cell? ⟨a, i, none⟩ = wr.cell? ⟨a, i, none⟩ := fun a i ha => k.cell (p := ⟨a, i, none⟩) (show a < B by omega)
  exact ⟨hb, Nat.lt_of_lt_of_le h.size k.size, (e _ 0 (by omega)).trans h.c0, (e _ 1 (by omega)).trans h.c1, (e _ 2 (by omega)).trans h.c2, (e _ 0 (by omega)).trans h.c3, (e _ 1 (by omega)).trans h.c4, hI.stays hb, hK.stays hb, hY.stays hb⟩
theorem RX.app {x : Nat} (h : RX W H ao ko bo n cap m kcap q bcap Z K Y L lst w wr) (hr : w'.ownsRow (w.heap.size + 2) 3 1 lst' (L.length + 1) (encN L ++ [.int .i64 (x : Int)])) (o : Obj) (hg : (wr.alloc o).grownBy w' lst.ownBlock) (hI : Ints w ao n Z) (hK : Ints w ko m K) (hY : Ints w bo q Y) : RX W H ao ko bo n cap m kcap q bcap Z K Y (L ++ [x]) lst' w w' := by
  have hz := h.lw.size
  have ho : ∀ k, lst.ownBlock = some k → w.heap.size + 2 ≤ k := fun k hk => (h.row.lt k hk).1
  have hb : Below (w.heap.size + 2) wr w' := ((Below.refl _ wr).alloc (by omega) o).grown hg (by simp; omega) ho
  refine ⟨h.lw.lift hb (by omega) hI hK hY, ?_⟩
  rw [List.length_append, encN_snoc]
  exact hr
end

set_option maxRecDepth 20000 in
set_option maxHeartbeats 12800000 in
theorem refnext_to (W H : Int) (ao ko bo : Option Addr) (n cap m kcap q bcap : Nat) (Z K Y : Nat → Int) (hn : n ≤ 4000) (hq : q ≤ 4000) (t fr : Int) (L : List Nat) (e : Int) (h : NOut W H n m q Z K Y t fr L e) (w : World) (hI : Ints w ao n Z) (hK : Ints w ko m K) (hY : Ints w bo q Y) :
    Calls Try.prog 27 #[lv W H (.slice ao n cap), .agg #[.slice ko m kcap, .slice bo q bcap], .int .i64 t, .int .i64 fr] w (LstE L e w) := by
  have HL := hid (LW.start (W := W) (H := H) (cap := cap) (kcap := kcap) (bcap := bcap) hI hK hY)
  have HI := hid hI
  have HK := hid hK
  have HY := hid hY
  have HIN := hid infoX
  clear hI hK hY
  rcases h with ⟨h0, h, rfl⟩ | ⟨W', H', rfl, rfl, hg, hf, h⟩
  · have HE : Hid (PErr W H n m q Z K Y t e) := hid (.inl ⟨h0, h⟩)
    have g1 : (e == 0) = false := by rw [beq_eq_false_iff_ne]; exact h0
    have g2 : (e != 0) = true := by simp [h0]
    clear h h0
    go_enter Try.func27, Try.ntmps27
    go_wp2_with (go_at_call 54; (refine (place_to W H ao ko bo n cap m kcap q bcap Z K Y hn hq t e HE.out _ HL.out.land HL.out.kinds HL.out.buoys).mono ?_); rintro r w1 ⟨rfl, hb⟩; have HB1 := hid (HL.out.stays hb); clear hb)
    go_ret2
    exact lst_nil HB1.out.below
  · rcases h with ⟨rfl, rfl, h⟩ | ⟨rfl, rfl, ⟨u, rfl, hu, hwu⟩, hs⟩ | ⟨rfl, hs, u, rfl, hu, hwu, rfl⟩
    · by_cases htl : tileB W' H' t = true
      · obtain ⟨u, rfl, hu⟩ := tile_ex htl
        have hwf : false = rwet (K u) (sea W' Z u) := by
          rw [rwet_wt (hf.fits u hu)]
          cases hw : wt W' Z K u
          · rfl
          · exact absurd ⟨u, rfl, hu, hw⟩ h
        have HW := hid (fun w hI hK => rWet_any W' H' ao ko n cap m kcap Z K hg hf.len u hu false hwf w hI hK)
        have HE : Hid (PErr W' H' n m q Z K Y u 0) := hid (.inr ⟨W', H', rfl, rfl, hg, hf, .inr ⟨rfl, htl⟩⟩)
        clear h hg hf htl hu hwf
        go_enter Try.func27, Try.ntmps27
        go_upto_region 1 with fail
        generalize World.alloc _ _ = wl at HL ⊢
        have c0 := HL.out.c0
        have c1 := HL.out.c1
        have c2 := HL.out.c2
        have c3 := HL.out.c3
        have c4 := HL.out.c4
        have hz := HL.out.size
        go_wp2_with (first
          | (go_at_call 54; (refine (place_to W' H' ao ko bo n cap m kcap q bcap Z K Y hn hq u 0 HE.out _ HL.out.land HL.out.kinds HL.out.buoys).mono ?_); rintro r w1 ⟨rfl, hb⟩; have HLn := hid (HL.out.stays hb); clear hb c0 c1 c2 c3 c4 hz HL; have HL := HLn; clear HLn; have c0 := HL.out.c0; have c1 := HL.out.c1; have c2 := HL.out.c2; have c3 := HL.out.c3; have c4 := HL.out.c4; have hz := HL.out.size)
          | (go_at_call 43; (refine (HW.out _ HL.out.land HL.out.kinds).mono ?_); rintro r w1 ⟨rfl, hb⟩; have HLn := hid (HL.out.stays hb); clear hb c0 c1 c2 c3 c4 hz HL; have HL := HLn; clear HLn; have c0 := HL.out.c0; have c1 := HL.out.c1; have c2 := HL.out.c2; have c3 := HL.out.c3; have c4 := HL.out.c4; have hz := HL.out.size))
        go_ret2
        exact lst_nil HL.out.below
      · have HE : Hid (PErr W' H' n m q Z K Y t 2) := hid (.inr ⟨W', H', rfl, rfl, hg, hf, .inl ⟨rfl, by simpa using htl⟩⟩)
        clear h hg hf htl
        go_enter Try.func27, Try.ntmps27
        go_wp2_with (go_at_call 54; (refine (place_to W' H' ao ko bo n cap m kcap q bcap Z K Y hn hq t 2 HE.out _ HL.out.land HL.out.kinds HL.out.buoys).mono ?_); rintro r w1 ⟨rfl, hb⟩; have HB1 := hid (HL.out.stays hb); clear hb)
        go_ret2
        exact lst_nil HB1.out.below
    · have HW := hid (fun w hI hK => rWet_any W' H' ao ko n cap m kcap Z K hg hf.len u hu true ((rwet_wt (hf.fits u hu)).trans hwu).symm w hI hK)
      have HE : Hid (PErr W' H' n m q Z K Y u 0) := hid (.inr ⟨W', H', rfl, rfl, hg, hf, .inr ⟨rfl, tile_yes hu⟩⟩)
      have HS := hid hs
      clear hg hf hu hwu hs
      by_cases h0 : fr < -1
      · go_enter Try.func27, Try.ntmps27
        go_upto_region 1 with fail
        generalize World.alloc _ _ = wl at HL ⊢
        have c0 := HL.out.c0
        have c1 := HL.out.c1
        have c2 := HL.out.c2
        have c3 := HL.out.c3
        have c4 := HL.out.c4
        have hz := HL.out.size
        go_wp2_with (first
          | (go_at_call 54; (refine (place_to W' H' ao ko bo n cap m kcap q bcap Z K Y hn hq u 0 HE.out _ HL.out.land HL.out.kinds HL.out.buoys).mono ?_); rintro r w1 ⟨rfl, hb⟩; have HLn := hid (HL.out.stays hb); clear hb c0 c1 c2 c3 c4 hz HL; have HL := HLn; clear HLn; have c0 := HL.out.c0; have c1 := HL.out.c1; have c2 := HL.out.c2; have c3 := HL.out.c3; have c4 := HL.out.c4; have hz := HL.out.size)
          | (go_at_call 43; (refine (HW.out _ HL.out.land HL.out.kinds).mono ?_); rintro r w1 ⟨rfl, hb⟩; have HLn := hid (HL.out.stays hb); clear hb c0 c1 c2 c3 c4 hz HL; have HL := HLn; clear HLn; have c0 := HL.out.c0; have c1 := HL.out.c1; have c2 := HL.out.c2; have c3 := HL.out.c3; have c4 := HL.out.c4; have hz := HL.out.size))
        go_ret2
        exact lst_nil HL.out.below
      · have h4 : 3 < fr := by have := HS.out; omega
        go_enter Try.func27, Try.ntmps27
        go_upto_region 1 with fail
        generalize World.alloc _ _ = wl at HL ⊢
        have c0 := HL.out.c0
        have c1 := HL.out.c1
        have c2 := HL.out.c2
        have c3 := HL.out.c3
        have c4 := HL.out.c4
        have hz := HL.out.size
        go_wp2_with (first
          | (go_at_call 54; (refine (place_to W' H' ao ko bo n cap m kcap q bcap Z K Y hn hq u 0 HE.out _ HL.out.land HL.out.kinds HL.out.buoys).mono ?_); rintro r w1 ⟨rfl, hb⟩; have HLn := hid (HL.out.stays hb); clear hb c0 c1 c2 c3 c4 hz HL; have HL := HLn; clear HLn; have c0 := HL.out.c0; have c1 := HL.out.c1; have c2 := HL.out.c2; have c3 := HL.out.c3; have c4 := HL.out.c4; have hz := HL.out.size)
          | (go_at_call 43; (refine (HW.out _ HL.out.land HL.out.kinds).mono ?_); rintro r w1 ⟨rfl, hb⟩; have HLn := hid (HL.out.stays hb); clear hb c0 c1 c2 c3 c4 hz HL; have HL := HLn; clear HLn; have c0 := HL.out.c0; have c1 := HL.out.c1; have c2 := HL.out.c2; have c3 := HL.out.c3; have c4 := HL.out.c4; have hz := HL.out.size))
        go_ret2
        exact lst_nil HL.out.below
    · have HW := hid (fun w hI hK => rWet_any W' H' ao ko n cap m kcap Z K hg hf.len u hu true ((rwet_wt (hf.fits u hu)).trans hwu).symm w hI hK)
      have HE : Hid (PErr W' H' n m q Z K Y u 0) := hid (.inr ⟨W', H', rfl, rfl, hg, hf, .inr ⟨rfl, tile_yes hu⟩⟩)
      have HM := hid (fun (s : Int) (h0 : 0 ≤ s) (h3 : s ≤ 3) r hr w hI hK hY => meets_any W' H' ao ko bo n cap m kcap q bcap Z K Y hg hf.len hf.fits u hu s h0 h3 r hr w hI hK hY)
      obtain ⟨f0, f3⟩ := hs
      clear hg hf hu hwu
      go_enter Try.func27, Try.ntmps27
      go_upto_region 1 with fail
      generalize World.alloc _ _ = wl at HL ⊢
      have c0 := HL.out.c0
      have c1 := HL.out.c1
      have c2 := HL.out.c2
      have c3 := HL.out.c3
      have c4 := HL.out.c4
      have hz := HL.out.size
      go_upto_region 9 with (first
        | (go_at_call 54; (refine (place_to W' H' ao ko bo n cap m kcap q bcap Z K Y hn hq u 0 HE.out _ HL.out.land HL.out.kinds HL.out.buoys).mono ?_); rintro r w1 ⟨rfl, hb⟩; have HLn := hid (HL.out.stays hb); clear hb c0 c1 c2 c3 c4 hz HL; have HL := HLn; clear HLn; have c0 := HL.out.c0; have c1 := HL.out.c1; have c2 := HL.out.c2; have c3 := HL.out.c3; have c4 := HL.out.c4; have hz := HL.out.size)
        | (go_at_call 43; (refine (HW.out _ HL.out.land HL.out.kinds).mono ?_); rintro r w1 ⟨rfl, hb⟩; have HLn := hid (HL.out.stays hb); clear hb c0 c1 c2 c3 c4 hz HL; have HL := HLn; clear HLn; have c0 := HL.out.c0; have c1 := HL.out.c1; have c2 := HL.out.c2; have c3 := HL.out.c3; have c4 := HL.out.c4; have hz := HL.out.size))
      have HX : Hid (RX W' H' ao ko bo n cap m kcap q bcap Z K Y [] (.slice none 0 0) w w1) := hid ⟨HL.out, by simpa [encN] using World.ownsRow_nil _ _ _ _⟩
      clear HL c0 c1 c2 c3 c4 hz
      go_wp2_with fail
      go_loopw [11, 32] (fun lst iv wr => ∃ k : Nat, k ≤ 4 ∧ iv = .int .i64 k ∧ Hid (RX W' H' ao ko bo n cap m kcap q bcap Z K Y (nxK W' H' Z K u fr k) lst w wr)) (fun _ iv _ => 4 - (intOf iv).toNat)
      case atStart => exact ⟨0, by omega, rfl, HX⟩
      case round =>
        clear HX
        obtain ⟨k, hk, rfl, HX⟩ := hrel
        have HL := hid HX.out.lw
        have c0 := HL.out.c0
        have c1 := HL.out.c1
        have c2 := HL.out.c2
        have c3 := HL.out.c3
        have c4 := HL.out.c4
        have hz := HL.out.size
        by_cases hlt : k < 4
        · obtain ⟨x, hx⟩ : ∃ x, x = if joi W' H' Z K u (k : Int) = true then bey W' H' u (k : Int) else -1 := ⟨_, rfl⟩
          have HMK := hid (HM.out (k : Int) (by omega) (by omega) x hx)
          by_cases hkf : (k : Int) = fr
          · have hb := nxK_no (W := W') (H := H') (Z := Z) (K := K) (t := u) (k := k) (fr := fr) (fun h => h.1 hkf)
            have HBN := hid hb
            have g1 : ((k : Int) == fr) = true := by simpa using hkf
            have g2 : ((k : Int) != fr) = false := by simpa using hkf
            clear hb hkf hx
            go_wp2_with fail
            go_roundw
            case rel => exact ⟨k + 1, by omega, by go_num, hid (by rw [HBN.out]; exact HX.out)⟩
            case measure => simp [intOf]; omega
          · have HKF := hid hkf
            have g1 : ((k : Int) == fr) = false := by simpa using hkf
            have g2 : ((k : Int) != fr) = true := by simpa using hkf
            clear hkf
            by_cases hj : joi W' H' Z K u (k : Int) = true
            · have hb := nxK_yes (W := W') (H := H') (Z := Z) (K := K) (t := u) (k := k) (fr := fr) HKF.out hj
              have HBN := hid hb
              have hlen := nxK_len W' H' Z K u fr k
              have hx0 : 0 ≤ x := by rw [hx, if_pos hj]; exact joi_bey hj
              clear hb hx hj
              go_wp2_with (first
                | (go_at_call 55; (refine (HMK.out _ HL.out.land HL.out.kinds HL.out.buoys).mono ?_); rintro e wn2 ⟨rfl, hb⟩; have HX2 := hid (HX.out.stays hb); clear hb; have hz2 := HX2.out.lw.size)
                | (at_builtin; obtain ⟨i0, HIN'⟩ := HIN.out; refine wpList_append_own _ rfl _ _ 22 rfl (w.heap.size + 2) 3 i0 (.int .i64 0) 1 8 Try.underlying22 HIN'.1 HIN'.2.1 HIN'.2.2.1 HIN'.2.2.2 rfl (by decide) _ _ _ rfl (HX2.out.row.alloc _) ⟨wn2.heap.size, 0, none⟩ 1 1 [.int .i64 k] rfl rfl ?c1 ?c2 ?c3 ?c4 ?c5 ?_))
              case c1 =>
                intro j u hj
                match j, hj with
                | 0, hj => simp at hj; subst hj; simp [Addr.add]
              case c2 => intro u hu; simp at hu; subst hu; rfl
              case c3 => unfold maxLen; omega
              case c4 => omega
              case c5 => simp; omega
              intro v' w6 hown hgrow _
              have HX6 := hid (HX2.out.app (x := k) hown _ hgrow HI.out HK.out HY.out)
              clear hown hgrow
              go_wp2_with fail
              go_roundw
              case rel => exact ⟨k + 1, by omega, by go_num, hid (by rw [HBN.out]; exact HX6.out)⟩
              case measure => simp [intOf]; omega
            · have hb := nxK_no (W := W') (H := H') (Z := Z) (K := K) (t := u) (k := k) (fr := fr) (fun h => hj h.2)
              have HBN := hid hb
              have hx0 : x = -1 := by rw [hx, if_neg hj]
              clear hb hx hj
              subst hx0
              go_wp2_with (go_at_call 55; (refine (HMK.out _ HL.out.land HL.out.kinds HL.out.buoys).mono ?_); rintro e wn2 ⟨rfl, hb⟩; have HX2 := hid (HX.out.stays hb); clear hb)
              go_roundw
              case rel => exact ⟨k + 1, by omega, by go_num, hid (by rw [HBN.out]; exact HX2.out)⟩
              case measure => simp [intOf]; omega
        · obtain rfl : k = 4 := by omega
          clear hlt hk
          obtain ⟨R, hR⟩ : ∃ R, R = nxK W' H' Z K u fr 4 := ⟨_, rfl⟩
          have hRl : R.length ≤ 4 := by rw [hR]; exact nxK_len _ _ _ _ _ _ _
          have hNX : nxs W' H' Z K u fr = if R = [] ∧ 0 ≤ fr ∧ joi W' H' Z K u fr = true then [fr.toNat] else R := by unfold nxs; rw [← hR]
          have HNX := hid hNX
          rw [← hR] at HX
          clear hNX hR
          obtain ⟨la, lc, rfl⟩ := row_slice HX.out.row
          by_cases hR0 : R = []
          · subst hR0
            by_cases hfr : 0 ≤ fr
            · obtain ⟨x, hx⟩ : ∃ x, x = if joi W' H' Z K u fr = true then bey W' H' u fr else -1 := ⟨_, rfl⟩
              have HMF := hid (HM.out fr hfr f3 x hx)
              by_cases hj : joi W' H' Z K u fr = true
              · have hL : nxs W' H' Z K u fr = [fr.toNat] := by rw [HNX.out, if_pos ⟨rfl, hfr, hj⟩]
                have HLL := hid hL
                have hx0 : 0 ≤ x := by rw [hx, if_pos hj]; exact joi_bey hj
                obtain ⟨f, hff⟩ : ∃ f : Nat, fr = f := ⟨fr.toNat, by omega⟩
                subst hff
                clear hL hx hj
                go_wp2_with (first
                  | (go_at_call 55; (refine (HMF.out _ HL.out.land HL.out.kinds HL.out.buoys).mono ?_); rintro e wn2 ⟨rfl, hb⟩; have HX2 := hid (HX.out.stays hb); clear hb; have hz2 := HX2.out.lw.size)
                  | (at_builtin; obtain ⟨i0, HIN'⟩ := HIN.out; refine wpList_append_own _ rfl _ _ 22 rfl (w.heap.size + 2) 3 i0 (.int .i64 0) 1 8 Try.underlying22 HIN'.1 HIN'.2.1 HIN'.2.2.1 HIN'.2.2.2 rfl (by decide) _ _ _ rfl (HX2.out.row.alloc _) ⟨wn2.heap.size, 0, none⟩ 1 1 [.int .i64 f] rfl rfl ?c1 ?c2 ?c3 ?c4 ?c5 ?_))
                case c1 =>
                  intro j u hj
                  match j, hj with
                  | 0, hj => simp at hj; subst hj; simp [Addr.add]
                case c2 => intro u hu; simp at hu; subst hu; rfl
                case c3 => unfold maxLen; omega
                case c4 => omega
                case c5 => simp; omega
                intro v' w6 hown hgrow _
                have HX6 := hid (HX2.out.app (x := f) hown _ hgrow HI.out HK.out HY.out)
                obtain ⟨lb, lc2, rfl⟩ := row_slice hown
                clear hown hgrow
                go_wp2_with fail
                go_ret2
                rw [HLL.out, Int.toNat_natCast]
                exact ⟨lb, lc2, rfl, row_mono HX6.out.row (by omega), HX6.out.lw.below⟩
              · have hL : nxs W' H' Z K u fr = [] := by rw [HNX.out, if_neg (fun h => hj h.2.2)]
                have HLL := hid hL
                have hx0 : x = -1 := by rw [hx, if_neg hj]
                clear hL hx hj
                subst hx0
                go_wp2_with (go_at_call 55; (refine (HMF.out _ HL.out.land HL.out.kinds HL.out.buoys).mono ?_); rintro e wn2 ⟨rfl, hb⟩; have HX2 := hid (HX.out.stays hb); clear hb)
                go_ret2
                rw [HLL.out]
                exact ⟨la, lc, rfl, row_mono HX2.out.row (by omega), HX2.out.lw.below⟩
            · obtain rfl : fr = -1 := by omega
              have hL : nxs W' H' Z K u (-1) = [] := by rw [HNX.out, if_neg (fun h => by omega)]
              have HLL := hid hL
              clear hL
              go_wp2_with fail
              go_ret2
              rw [HLL.out]
              exact ⟨la, lc, rfl, row_mono HX.out.row (by omega), HX.out.lw.below⟩
          · have hL : nxs W' H' Z K u fr = R := by rw [HNX.out, if_neg (fun h => hR0 h.1)]
            have HLL := hid hL
            have hpos : 0 < R.length := List.length_pos_iff.2 hR0
            have g1 : (((R.length : Nat) : Int) == 0) = false := by rw [beq_eq_false_iff_ne]; omega
            clear hL hR0
            go_wp2_with fail
            go_ret2
            rw [HLL.out]
            exact ⟨la, lc, rfl, row_mono HX.out.row (by omega), HX.out.lw.below⟩

set_option maxRecDepth 20000 in
set_option maxHeartbeats 1600000 in
theorem ints_same (ao bo : Option Addr) (n c1 c2 : Nat) (Z : Nat → Int) (hn : n ≤ 9223372036854775807) (w : World) (h : Ints w ao n Z) (h' : Ints w bo n Z) :
    Calls Try.prog 28 #[.slice ao n c1, .slice bo n c2] w fun e w' => e = .returned (.bool true) ∧ Below w.heap.size w w' := by
  have H := hid h
  have H' := hid h'
  clear h h'
  go_enter Try.func28, Try.ntmps28
  go_wp2
  go_loopw [5] (fun iv wr => ∃ (j k : Nat), j ≤ n ∧ iv = .int .i64 j ∧ wr = w.drewN k) (fun iv _ => n - (intOf iv).toNat)
  case atStart => exact ⟨0, 0, Nat.zero_le _, rfl, rfl⟩
  case round =>
    obtain ⟨j, k, hj, rfl, rfl⟩ := hrel
    by_cases hlt : j < n
    · obtain ⟨g, o, rfl, hz, hc⟩ := H.out j hlt
      obtain ⟨g', o', rfl, hz', hc'⟩ := H'.out j hlt
      obtain ⟨x, hx⟩ : ∃ x, x = Z j := ⟨_, rfl⟩
      rw [← hx] at hc hc'
      have b1 : (j : Int) < (n : Int) := by omega
      have b2 : (0 : Int) ≤ (j : Int) := by omega
      clear hx
      go_wp2
      go_quiet (fail)
      go_wp2
      go_roundw
      case rel => exact ⟨j + 1, _, by omega, by go_num, rfl⟩
      case measure => simp [intOf]; omega
    · go_wp2
      go_ret
      exact ⟨rfl, Joins.below_draws _ _ _⟩
end Go.Proofs.Ytkpnngpnjimogaa
