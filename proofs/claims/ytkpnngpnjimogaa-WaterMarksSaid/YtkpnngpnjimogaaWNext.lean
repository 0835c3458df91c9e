/-
  The walks of Next, of the program and of the reference.
-/
import Derived.Test.YtkpnngpnjimogaaWLawJnd
namespace Go.Proofs.Ytkpnngpnjimogaa
open Go.RowKit

/-- The sides, of the first k, but one, through which a ship may leave; and the one where there is no other. -/
def nxK (W H : Nat) (Z K : Nat → Int) (t : Nat) (fr : Int) (k : Nat) : List Nat := (List.range k).filter fun i => decide ((i : Int) ≠ fr) && joi W H Z K t i
def nxs (W H : Nat) (Z K : Nat → Int) (t : Nat) (fr : Int) : List Nat :=
  if nxK W H Z K t fr 4 = [] ∧ 0 ≤ fr ∧ joi W H Z K t fr = true then [fr.toNat] else nxK W H Z K t fr 4
theorem nxK_yes {W H : Nat} {Z K : Nat → Int} {t k : Nat} {fr : Int} (h1 : (k : Int) ≠ fr) (h2 : joi W H Z K t k = true) : nxK W H Z K t fr (k + 1) = nxK W H Z K t fr k ++ [k] := by
  unfold nxK; rw [List.range_succ, List.filter_append]; simp [h1, h2]
theorem nxK_no {W H : Nat} {Z K : Nat → Int} {t k : Nat} {fr : Int} (h : ¬ ((k : Int) ≠ fr ∧ joi W H Z K t k = true)) : nxK W H Z K t fr (k + 1) = nxK W H Z K t fr k := by
  unfold nxK; rw [List.range_succ, List.filter_append]
  by_cases h1 : (k : Int) = fr
  · simp [h1]
  · have h2 : joi W H Z K t k = false := by
      cases hj : joi W H Z K t k
      · rfl
      · exact absurd ⟨h1, hj⟩ h
    simp [h2]
theorem nxK_len (W H : Nat) (Z K : Nat → Int) (t : Nat) (fr : Int) (k : Nat) : (nxK W H Z K t fr k).length ≤ k := Nat.le_trans (List.length_filter_le _ _) (by simp)
/-- What Next answers on right waters. -/
def NI (W H : Nat) (Z K : Nat → Int) (t fr : Int) (L : List Nat) (e : Int) : Prop :=
  (e = 2 ∧ L = [] ∧ ¬ ∃ u : Nat, t = u ∧ u < W * H ∧ wt W Z K u = true) ∨
  (e = 1 ∧ L = [] ∧ (∃ u : Nat, t = u ∧ u < W * H ∧ wt W Z K u = true) ∧ ¬ (-1 ≤ fr ∧ fr ≤ 3)) ∨
  (e = 0 ∧ (-1 ≤ fr ∧ fr ≤ 3) ∧ ∃ u : Nat, t = u ∧ u < W * H ∧ wt W Z K u = true ∧ L = nxs W H Z K u fr)
theorem NI.ex (W H : Nat) (Z K : Nat → Int) (t fr : Int) : ∃ L e, NI W H Z K t fr L e := by
  by_cases h : ∃ u : Nat, t = u ∧ u < W * H ∧ wt W Z K u = true
  · by_cases hs : -1 ≤ fr ∧ fr ≤ 3
    · obtain ⟨u, hu⟩ := h
      exact ⟨_, 0, .inr (.inr ⟨rfl, hs, u, hu.1, hu.2.1, hu.2.2, rfl⟩)⟩
    · exact ⟨[], 1, .inr (.inl ⟨rfl, rfl, h, hs⟩)⟩
  · exact ⟨[], 2, .inl ⟨rfl, rfl, h⟩⟩
/-- The memory of Next of the program. -/
structure NX (d : Wat) (M : Nat) (R : List Nat) (lst : Value) (w w1 wr : World) : Prop where
  tb : TB d M w w1 wr
  row : wr.ownsRow (w1.heap.size + 1) 3 1 lst R.length (encN R)
theorem NX.on {d : Wat} {M : Nat} {R : List Nat} {lst : Value} {w w1 wr w' : World} (h : NX d M R lst w w1 wr) (k : Nx d M wr w') : NX d M R lst w w1 w' :=
  ⟨h.tb.on k, row_kp h.row k.kp (by have := h.tb.cb.lt; omega)⟩
theorem NX.app {d : Wat} {M x : Nat} {R : List Nat} {lst lst' : Value} {w w1 wr w' : World} (h : NX d M R lst w w1 wr) (hr : w'.ownsRow (w1.heap.size + 1) 3 1 lst' (R.length + 1) (encN R ++ [.int .i64 (x : Int)])) (o : Obj) (hg : (wr.alloc o).grownBy w' lst.ownBlock) : NX d M (R ++ [x]) lst' w w1 w' := by
  have hz := h.tb.ge
  have ho : ∀ k, lst.ownBlock = some k → w1.heap.size + 1 ≤ k := fun k hk => (h.row.lt k hk).1
  have hb : Below (w1.heap.size + 1) wr w' := ((Below.refl _ wr).alloc (by omega) o).grown hg (by simp; omega) ho
  refine ⟨h.tb.lift hb (by omega), ?_⟩
  rw [List.length_append, encN_snoc]
  exact hr

set_option maxRecDepth 20000 in
set_option maxHeartbeats 12800000 in
theorem next_yes (d : Wat) (hg : Good d.W d.H d.n d.Z) (hf : Fine d.W d.H d.m d.q d.Z d.K d.Y) (hq : d.q ≤ 4000) (t fr : Int) (L : List Nat) (e : Int) (h : NI d.W d.H d.Z d.K t fr L e) (w : World) (hl : Ints w (some ⟨d.ab, d.aoff, none⟩) d.n d.Z) (hk : Ints w (some ⟨d.kb, d.koff, none⟩) d.m d.K) (hb : Ints w d.bo d.q d.Y) :
    Calls Try.prog 26 #[d.lnd, d.wts, .int .i64 t, .int .i64 fr] w (LstE L e w) := by
  have HL := hid (LW.start (W := d.W) (H := d.H) (cap := d.cap) (kcap := d.kcap) (bcap := d.bcap) hl hk hb)
  have HG := hid hg
  have HF := hid hf
  have HIN := hid infoX
  clear hl hk hb hg hf
  rcases h with ⟨rfl, rfl, h⟩ | ⟨rfl, rfl, h, hs⟩ | ⟨rfl, hs, u, rfl, hu, hwu, rfl⟩
  · have H1 : Hid (¬ Sails d t) := hid h
    clear h
    go_enter Try.func26, Try.ntmps26
    go_upto_region 2 with (go_at_call 40; (refine (survey_yes d HG.out HF.out hq _ HL.out.land HL.out.kinds HL.out.buoys).mono ?_); rintro r w1 ⟨M, rfl, hb, hM, hC⟩; have HT := hid (TB.start HL.out hb hM hC); clear hb hM hC)
    generalize World.alloc _ _ = wt1 at HT ⊢
    have c0 := HT.out.cb.c0
    have c1 := HT.out.cb.c1
    have c2 := HT.out.cb.c2
    have c3 := HT.out.cb.c3
    have c4 := HT.out.cb.c4
    have c5 := HT.out.cb.c5
    have hz := HT.out.cb.size
    go_wp2_with (go_at_call 56; ((with_reducible refine (sails_to d HG.out HF.out.len _ t false ⟨fun h => (by cases h), fun h => absurd h H1.out⟩ _ HT.out.cb.cx).mono ?_)); rintro r wn ⟨rfl, hn⟩; have HTn := hid (HT.out.on hn); clear hn c0 c1 c2 c3 c4 c5 hz HT; have HT := HTn; clear HTn; have c0 := HT.out.cb.c0; have c1 := HT.out.cb.c1; have c2 := HT.out.cb.c2; have c3 := HT.out.cb.c3; have c4 := HT.out.cb.c4; have c5 := HT.out.cb.c5; have hz := HT.out.cb.size)
    go_ret2
    exact lst_nil HT.out.below
  · have H1 : Hid (Sails d t) := hid h
    have HS := hid hs
    clear h hs
    by_cases h0 : fr < -1
    · go_enter Try.func26, Try.ntmps26
      go_upto_region 2 with (go_at_call 40; (refine (survey_yes d HG.out HF.out hq _ HL.out.land HL.out.kinds HL.out.buoys).mono ?_); rintro r w1 ⟨M, rfl, hb, hM, hC⟩; have HT := hid (TB.start HL.out hb hM hC); clear hb hM hC)
      generalize World.alloc _ _ = wt1 at HT ⊢
      have c0 := HT.out.cb.c0
      have c1 := HT.out.cb.c1
      have c2 := HT.out.cb.c2
      have c3 := HT.out.cb.c3
      have c4 := HT.out.cb.c4
      have c5 := HT.out.cb.c5
      have hz := HT.out.cb.size
      go_wp2_with (go_at_call 56; ((with_reducible refine (sails_to d HG.out HF.out.len _ t true ⟨fun _ => H1.out, fun _ => rfl⟩ _ HT.out.cb.cx).mono ?_)); rintro r wn ⟨rfl, hn⟩; have HTn := hid (HT.out.on hn); clear hn c0 c1 c2 c3 c4 c5 hz HT; have HT := HTn; clear HTn; have c0 := HT.out.cb.c0; have c1 := HT.out.cb.c1; have c2 := HT.out.cb.c2; have c3 := HT.out.cb.c3; have c4 := HT.out.cb.c4; have c5 := HT.out.cb.c5; have hz := HT.out.cb.size)
      go_ret2
      exact lst_nil HT.out.below
    · have h4 : 4 ≤ fr := by have := HS.out; omega
      go_enter Try.func26, Try.ntmps26
      go_upto_region 2 with (go_at_call 40; (refine (survey_yes d HG.out HF.out hq _ HL.out.land HL.out.kinds HL.out.buoys).mono ?_); rintro r w1 ⟨M, rfl, hb, hM, hC⟩; have HT := hid (TB.start HL.out hb hM hC); clear hb hM hC)
      generalize World.alloc _ _ = wt1 at HT ⊢
      have c0 := HT.out.cb.c0
      have c1 := HT.out.cb.c1
      have c2 := HT.out.cb.c2
      have c3 := HT.out.cb.c3
      have c4 := HT.out.cb.c4
      have c5 := HT.out.cb.c5
      have hz := HT.out.cb.size
      go_wp2_with (go_at_call 56; ((with_reducible refine (sails_to d HG.out HF.out.len _ t true ⟨fun _ => H1.out, fun _ => rfl⟩ _ HT.out.cb.cx).mono ?_)); rintro r wn ⟨rfl, hn⟩; have HTn := hid (HT.out.on hn); clear hn c0 c1 c2 c3 c4 c5 hz HT; have HT := HTn; clear HTn; have c0 := HT.out.cb.c0; have c1 := HT.out.cb.c1; have c2 := HT.out.cb.c2; have c3 := HT.out.cb.c3; have c4 := HT.out.cb.c4; have c5 := HT.out.cb.c5; have hz := HT.out.cb.size)
      go_ret2
      exact lst_nil HT.out.below
  · have H1 : Hid (Sails d u) := hid ⟨u, rfl, hu, hwu⟩
    have HJ := hid (fun (s : Int) (h0 : 0 ≤ s) (h3 : s ≤ 3) r hr M w hC => joined_any d HG.out HF.out.len M u hu s h0 h3 r hr w hC)
    obtain ⟨f0, f3⟩ := hs
    clear hu hwu
    go_enter Try.func26, Try.ntmps26
    go_upto_region 2 with (go_at_call 40; (refine (survey_yes d HG.out HF.out hq _ HL.out.land HL.out.kinds HL.out.buoys).mono ?_); rintro r w1 ⟨M, rfl, hb, hM, hC⟩; have HT := hid (TB.start HL.out hb hM hC); clear hb hM hC)
    generalize World.alloc _ _ = wt1 at HT ⊢
    have c0 := HT.out.cb.c0
    have c1 := HT.out.cb.c1
    have c2 := HT.out.cb.c2
    have c3 := HT.out.cb.c3
    have c4 := HT.out.cb.c4
    have c5 := HT.out.cb.c5
    have hz := HT.out.cb.size
    go_wp2_with (go_at_call 56; ((with_reducible refine (sails_to d HG.out HF.out.len _ u true ⟨fun _ => H1.out, fun _ => rfl⟩ _ HT.out.cb.cx).mono ?_)); rintro r wn ⟨rfl, hn⟩; have HTn := hid (HT.out.on hn); clear hn c0 c1 c2 c3 c4 c5 hz HT; have HT := HTn; clear HTn; have c0 := HT.out.cb.c0; have c1 := HT.out.cb.c1; have c2 := HT.out.cb.c2; have c3 := HT.out.cb.c3; have c4 := HT.out.cb.c4; have c5 := HT.out.cb.c5; have hz := HT.out.cb.size)
    have HX : Hid (NX d M [] (.slice none 0 0) w w1 wn) := hid ⟨HT.out, by simpa [encN] using World.ownsRow_nil _ _ _ _⟩
    clear HT c0 c1 c2 c3 c4 c5 hz
    go_loopw [12, 36] (fun lst iv wr => ∃ k : Nat, k ≤ 4 ∧ iv = .int .i64 k ∧ Hid (NX d M (nxK d.W d.H d.Z d.K u fr k) lst w w1 wr)) (fun _ iv _ => 4 - (intOf iv).toNat)
    case atStart => exact ⟨0, by omega, rfl, HX⟩
    case round =>
      clear HX
      obtain ⟨k, hk, rfl, HX⟩ := hrel
      have HT := hid HX.out.tb
      have c0 := HT.out.cb.c0
      have c1 := HT.out.cb.c1
      have c2 := HT.out.cb.c2
      have c3 := HT.out.cb.c3
      have c4 := HT.out.cb.c4
      have c5 := HT.out.cb.c5
      have hz := HT.out.cb.size
      by_cases hlt : k < 4
      · obtain ⟨r, hr⟩ : ∃ r, r = joi d.W d.H d.Z d.K u (k : Int) := ⟨_, rfl⟩
        have HJK := hid (HJ.out (k : Int) (by omega) (by omega) r hr)
        have HR := hid hr
        clear hr
        by_cases hkf : (k : Int) = fr
        · have hb := nxK_no (W := d.W) (H := d.H) (Z := d.Z) (K := d.K) (t := u) (k := k) (fr := fr) (fun h => h.1 hkf)
          have HBN := hid hb
          have g1 : ((k : Int) == fr) = true := by simpa using hkf
          have g2 : ((k : Int) != fr) = false := by simpa using hkf
          clear hb hkf
          go_wp2_with fail
          go_roundw
          case rel => exact ⟨k + 1, by omega, by go_num, hid (by rw [HBN.out]; exact HX.out)⟩
          case measure => simp [intOf]; omega
        · have HKF := hid hkf
          have g1 : ((k : Int) == fr) = false := by simpa using hkf
          have g2 : ((k : Int) != fr) = true := by simpa using hkf
          clear hkf
          cases r
          · have hb := nxK_no (W := d.W) (H := d.H) (Z := d.Z) (K := d.K) (t := u) (k := k) (fr := fr) (fun h => by rw [← HR.out] at h; cases h.2)
            have HBN := hid hb
            clear hb
            go_wp2_with (go_at_call 53; (refine (HJK.out _ _ HT.out.cb.cx).mono ?_); rintro e wn ⟨rfl, hn⟩; have HX2 := hid (HX.out.on hn); clear hn)
            go_roundw
            case rel => exact ⟨k + 1, by omega, by go_num, hid (by rw [HBN.out]; exact HX2.out)⟩
            case measure => simp [intOf]; omega
          · have hb := nxK_yes (W := d.W) (H := d.H) (Z := d.Z) (K := d.K) (t := u) (k := k) (fr := fr) HKF.out HR.out.symm
            have HBN := hid hb
            have hlen := nxK_len d.W d.H d.Z d.K u fr k
            clear hb
            go_wp2_with (first
              | (go_at_call 53; (refine (HJK.out _ _ HT.out.cb.cx).mono ?_); rintro e wn2 ⟨rfl, hn⟩; have HX2 := hid (HX.out.on hn); clear hn; have hz2 := HX2.out.tb.ge)
              | (at_builtin; obtain ⟨i0, HIN'⟩ := HIN.out; refine wpList_append_own _ rfl _ _ 22 rfl (w1.heap.size + 1) 3 i0 (.int .i64 0) 1 8 Try.underlying22 HIN'.1 HIN'.2.1 HIN'.2.2.1 HIN'.2.2.2 rfl (by decide) _ _ _ rfl (HX2.out.row.alloc _) ⟨wn2.heap.size, 0, none⟩ 1 1 [.int .i64 k] rfl rfl ?c1 ?c2 ?c3 ?c4 ?c5 ?_))
            case c1 =>
              intro j u hj
              match j, hj with
              | 0, hj => simp at hj; subst hj; simp [Addr.add]
            case c2 => intro u hu; simp at hu; subst hu; rfl
            case c3 => unfold maxLen; omega
            case c4 => omega
            case c5 => simp; omega
            intro v' w6 hown hgrow _
            have HX6 := hid (HX2.out.app (x := k) hown _ hgrow)
            clear hown hgrow
            go_wp2_with fail
            go_roundw
            case rel => exact ⟨k + 1, by omega, by go_num, hid (by rw [HBN.out]; exact HX6.out)⟩
            case measure => simp [intOf]; omega
      · obtain rfl : k = 4 := by omega
        clear hlt hk
        obtain ⟨R, hR⟩ : ∃ R, R = nxK d.W d.H d.Z d.K u fr 4 := ⟨_, rfl⟩
        have hRl : R.length ≤ 4 := by rw [hR]; exact nxK_len _ _ _ _ _ _ _
        have hNX : nxs d.W d.H d.Z d.K u fr = if R = [] ∧ 0 ≤ fr ∧ joi d.W d.H d.Z d.K u fr = true then [fr.toNat] else R := by unfold nxs; rw [← hR]
        have HNX := hid hNX
        rw [← hR] at HX
        clear hNX hR
        obtain ⟨la, lc, rfl⟩ := row_slice HX.out.row
        by_cases hR0 : R = []
        · subst hR0
          by_cases hfr : 0 ≤ fr
          · obtain ⟨r, hr⟩ : ∃ r, r = joi d.W d.H d.Z d.K u fr := ⟨_, rfl⟩
            have HJF := hid (HJ.out fr hfr f3 r hr)
            have HR := hid hr
            have g2 : (fr == -1) = false := by rw [beq_eq_false_iff_ne]; omega
            have g3 : (fr != -1) = true := by rw [bne_iff_ne]; omega
            clear hr
            cases r
            · have hL : nxs d.W d.H d.Z d.K u fr = [] := by rw [HNX.out, if_neg (fun h => by rw [← HR.out] at h; cases h.2.2)]
              have HLL := hid hL
              clear hL
              go_wp2_with (go_at_call 53; (refine (HJF.out _ _ HT.out.cb.cx).mono ?_); rintro e wn2 ⟨rfl, hn⟩; have HX2 := hid (HX.out.on hn); clear hn)
              go_ret2
              rw [HLL.out]
              exact ⟨la, lc, rfl, row_mono HX2.out.row (by have := HX2.out.tb.size; omega), HX2.out.tb.below⟩
            · have hL : nxs d.W d.H d.Z d.K u fr = [fr.toNat] := by rw [HNX.out, if_pos ⟨rfl, hfr, HR.out.symm⟩]
              have HLL := hid hL
              obtain ⟨f, hff⟩ : ∃ f : Nat, fr = f := ⟨fr.toNat, by omega⟩
              subst hff
              clear hL
              go_wp2_with (first
                | (go_at_call 53; (refine (HJF.out _ _ HT.out.cb.cx).mono ?_); rintro e wn2 ⟨rfl, hn⟩; have HX2 := hid (HX.out.on hn); clear hn; have hz2 := HX2.out.tb.ge)
                | (at_builtin; obtain ⟨i0, HIN'⟩ := HIN.out; refine wpList_append_own _ rfl _ _ 22 rfl (w1.heap.size + 1) 3 i0 (.int .i64 0) 1 8 Try.underlying22 HIN'.1 HIN'.2.1 HIN'.2.2.1 HIN'.2.2.2 rfl (by decide) _ _ _ rfl (HX2.out.row.alloc _) ⟨wn2.heap.size, 0, none⟩ 1 1 [.int .i64 f] rfl rfl ?c1 ?c2 ?c3 ?c4 ?c5 ?_))
              case c1 =>
                intro j u hj
                match j, hj with
                | 0, hj => simp at hj; subst hj; simp [Addr.add]
              case c2 => intro u hu; simp at hu; subst hu; rfl
              case c3 => unfold maxLen; omega
              case c4 => omega
              case c5 => simp; omega
              intro v' w6 hown hgrow _
              have HX6 := hid (HX2.out.app (x := f) hown _ hgrow)
              obtain ⟨lb, lc2, rfl⟩ := row_slice hown
              clear hown hgrow
              go_wp2_with fail
              go_ret2
              rw [HLL.out, Int.toNat_natCast]
              exact ⟨lb, lc2, rfl, row_mono HX6.out.row (by have := HX6.out.tb.size; omega), HX6.out.tb.below⟩
          · obtain rfl : fr = -1 := by omega
            have hL : nxs d.W d.H d.Z d.K u (-1) = [] := by rw [HNX.out, if_neg (fun h => by omega)]
            have HLL := hid hL
            clear hL
            go_wp2_with fail
            go_ret2
            rw [HLL.out]
            exact ⟨la, lc, rfl, row_mono HX.out.row (by have := HX.out.tb.size; omega), HX.out.tb.below⟩
        · have hL : nxs d.W d.H d.Z d.K u fr = R := by rw [HNX.out, if_neg (fun h => hR0 h.1)]
          have HLL := hid hL
          have hpos : 0 < R.length := List.length_pos_iff.2 hR0
          have g1 : (((R.length : Nat) : Int) == 0) = false := by rw [beq_eq_false_iff_ne]; omega
          clear hL hR0
          go_wp2_with fail
          go_ret2
          rw [HLL.out]
          exact ⟨la, lc, rfl, row_mono HX.out.row (by have := HX.out.tb.size; omega), HX.out.tb.below⟩
end Go.Proofs.Ytkpnngpnjimogaa
