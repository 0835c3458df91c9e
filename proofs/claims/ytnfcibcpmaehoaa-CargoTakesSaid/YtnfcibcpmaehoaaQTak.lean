/-
  The walk of Take of the program.
-/
import Derived.Test.YtnfcibcpmaehoaaQOld
import Derived.Test.YtnfcibcpmaehoaaQRl
import Derived.Test.YtnfcibcpmaehoaaQVal
import Derived.Test.YtnfcibcpmaehoaaQDel
namespace Go.Proofs.Ytnfcibcpmaehoaa
open Go.RowKit

/-- What Take leaves. -/
def TkP (n : Nat) (P : Nat → Par) (k u : Int) (w : World) (e : Ending) (w' : World) : Prop := ∃ tl ll ta tc lo lc er, e = .returned (.tuple #[.slice ta tl.length tc, .slice lo ll.length lc, .int .i64 er]) ∧ TkV n P k u tl ll er ∧ TK w.heap.size tl ll (.slice ta tl.length tc) (.slice lo ll.length lc) w w'
theorem TK.nil {B : Nat} {w wr : World} (h : Below B w wr) (hs : B ≤ wr.heap.size) : TK B [] [] (.slice none 0 0) (.slice none 0 0) w wr :=
  ⟨World.ownsRow_nil _ _ _ _, World.ownsRow_nil _ _ _ _, fun k hk => by simp [Value.ownBlock] at hk, h, hs⟩
theorem TK.down {B B' : Nat} {tl ll : List Par} {tv lv : Value} {w w1 wr : World} (h : TK B tl ll tv lv w1 wr) (hb : Below B' w w1) (hB : B' ≤ B) : TK B' tl ll tv lv w wr :=
  ⟨row_mono h.t hB, row_mono h.l hB, h.ne, hb.trans (h.below.mono hB), Nat.le_trans hB h.size⟩
set_option maxRecDepth 100000 in
set_option maxHeartbeats 12800000 in
theorem take_any (po : Option Addr) (n qc : Nat) (P : Nat → Par) (k u : Int) (hu2 : u ≤ 9223372036854775807) (w : World) (hP : Pars w po n P) :
    Calls Try.prog 30 #[.slice po n qc, .int .i64 k, .int .i64 u] w (TkP n P k u w) := by
  have H1 := hid (validate_any po n qc P w hP)
  obtain ⟨B, hB⟩ : ∃ B, w.heap.size = B := ⟨_, rfl⟩
  have HBW := hid hB
  have HP : Hid (∀ wr, Below B w wr → Pars wr po n P) := hid (fun wr hb => hP.stays (by rw [hB]; exact hb))
  obtain ⟨er, her⟩ : ∃ x, LErr n P = x := ⟨_, rfl⟩
  have HER := hid her
  rw [her, hB] at H1
  clear hP hB her
  by_cases h0 : er = 0
  · subst h0
    by_cases hu : u < 0
    · have HUN := hid hu
      go_enter Try.func30, Try.ntmps30
      go_wp2_with fail
      refine H1.out.mono ?_
      rintro e w1 ⟨rfl, hb⟩
      have HB := hid hb
      clear hb H1
      go_wp2_with fail
      go_ret3
      exact ⟨[], [], none, 0, none, 0, 1, rfl, .inr (.inl ⟨HER.out, HUN.out, rfl, rfl, rfl⟩), TK.nil (by rw [HBW.out]; exact HB.out) (by rw [HBW.out]; have := HB.out.size; have := HBW.out; omega)⟩
    · have hL := LErr.load HER.out
      have hle := hL.le
      have HL := hid hL
      have HU := hid (show 0 ≤ u ∧ u ≤ 9223372036854775807 by omega)
      have HSP := hid (fun (x : Par) (hx : okP x) m h1 h2 w => split_any x hx m h1 h2 w)
      have HOL : Hid (∀ w1, Below B w w1 → Calls Try.prog 55 #[.slice po n qc, .int .i64 k, .int .i64 u] w1 (OldP n P k u w1)) := hid (fun w1 hb => oldest_any po n qc P HL.out k u HU.out.1 HU.out.2 w1 (HP.out w1 hb))
      clear hL
      go_enter Try.func30, Try.ntmps30
      go_wp2_with fail
      refine H1.out.mono ?_
      rintro e w1 ⟨rfl, hb⟩
      have HB := hid hb
      clear hb H1
      go_wp2_with fail
      refine (HOL.out _ HB.out).mono ?_
      rintro e w2 ⟨M, q, σ, rfl, hsg, hrow, hb2⟩
      have hcb := fun i (hi : i < n) => cS_bd HL.out hsg HU.out.1 q (Nat.le_refl _) i hi
      obtain ⟨C, hC⟩ : ∃ C, cS P σ u q = C := ⟨_, rfl⟩
      rw [hC] at hrow hcb
      have HFIN : Hid (TkV n P k u (tkn P C n) (lft P C n) 0) := hid (.inr (.inr ⟨HER.out, HU.out.1, rfl, q, σ, hsg, by rw [hC], by rw [hC]⟩))
      have HCB := hid hcb
      have hM := World.ownsRow.lt hrow M rfl
      have HR := hid (fun i (hi : i < n) => (hrow.cellAt i (by omega)).trans (vals_get (iv C) hi))
      have HB2 : Hid (Below B w w2) := hid (HB.out.trans (hb2.mono (by have := HB.out.size; have := HBW.out; omega)))
      obtain ⟨B1, hB1⟩ : ∃ B1, w2.heap.size = B1 := ⟨_, rfl⟩
      have HB1 : Hid (w2.heap.size = B1 ∧ B ≤ B1 ∧ M < B1) := hid ⟨hB1, by have := HB2.out.size; have := HBW.out; omega, by omega⟩
      have HT0 : Hid (TK B1 (tkn P C 0) (lft P C 0) (.slice none 0 0) (.slice none 0 0) w2 w2) := hid (TK.nil (Below.refl _ _) (by omega))
      obtain ⟨i0, hi, hz0, hz1, hz2⟩ := info_parts infoP
      have HIN := hid (And.intro hi (And.intro hz0 (And.intro hz1 hz2)))
      clear hrow hsg hcb hM hb2 hC HOL HB hi hz0 hz1 hz2 hB1
      go_wp2_with fail
      go_loopw [10, 11, 28] (fun tv lv iv wr => ∃ (i : Nat) (ta : Option Addr) (nt tc : Nat) (la : Option Addr) (nl lc : Nat), i ≤ n ∧ iv = .int .i64 i ∧ tv = .slice ta nt tc ∧ lv = .slice la nl lc ∧ Hid (nt = (tkn P C i).length ∧ nl = (lft P C i).length ∧ TK B1 (tkn P C i) (lft P C i) tv lv w2 wr)) (fun _ _ iv _ => n - (intOf iv).toNat)
      case atStart => exact ⟨0, none, 0, 0, none, 0, 0, Nat.zero_le _, rfl, rfl, rfl, hid ⟨rfl, rfl, HT0.out⟩⟩
      case round =>
        clear HT0
        obtain ⟨i, ta, nt, tc, la, nl, lc, hi, rfl, rfl, rfl, HS⟩ := hrel
        obtain ⟨hnt, hnl, hT⟩ := HS.out
        subst hnt hnl
        by_cases hlt : i < n
        · have HBW2 : Hid (Below B w wr) := hid (HB2.out.trans (hT.below.mono HB1.out.2.1))
          obtain ⟨b, off, e, hbl, a0, a1, a2, a3, a4, a5⟩ := HP.out wr HBW2.out i hlt
          subst e
          have cM : wr.cell? ⟨M, i, none⟩ = some (.int .i64 (C i)) := (hT.below.cell (p := ⟨M, i, none⟩) HB1.out.2.2).trans (HR.out i hlt)
          have hok := HL.out.ok i hlt
          have hm := HCB.out i hlt
          obtain ⟨x, hx⟩ : ∃ x, P i = x := ⟨_, rfl⟩
          rw [hx] at a0 a1 a2 a3 a4 a5 hok hm
          obtain ⟨m, hmm⟩ : ∃ m, C i = m := ⟨_, rfl⟩
          rw [hmm] at cM hm
          have HS1 := hid (fun W => HSP.out x hok m hm.1 hm.2 W)
          obtain ⟨gx, hgx⟩ : ∃ gx, prt x m = gx := ⟨_, rfl⟩
          obtain ⟨kx, hkx⟩ : ∃ kx, rst x m = kx := ⟨_, rfl⟩
          rw [hgx, hkx] at HS1
          have HGX : Hid (prt (P i) (C i) = gx) := hid (by rw [hx, hmm]; exact hgx)
          have HKX : Hid (rst (P i) (C i) = kx) := hid (by rw [hx, hmm]; exact hkx)
          have HGC : Hid (gx.c = C i) := hid (by rw [← hgx, hmm]; rfl)
          have HKC : Hid (kx.c = (P i).c - C i) := hid (by rw [← hkx, hx, hmm]; rfl)
          have hl1 : (tkn P C i).length ≤ i := seg_len (fT_len P C) i
          have hl2 : (lft P C i).length ≤ i := seg_len (fL_len P C) i
          have HT := hid hT
          clear hx hmm hgx hkx hok hm hT HS
          by_cases hg : 0 < gx.c
          · go_wp2_with (first
              | (go_at_call 56; refine (HS1.out _).mono ?_; rintro e w5 ⟨rfl, hb5⟩; have HT5 := hid (HT.out.stays hb5); have HT6 := hid ((HT5.out.stays ((Below.refl _ w5).alloc (Nat.le_refl _) (.cells #[.int .i64 gx.k, .int .i64 gx.f, .int .i64 gx.t, .int .i64 gx.a, .int .i64 gx.c, .int .i64 gx.s] 36))).stays ((Below.refl _ _).alloc (Nat.le_refl _) (.cells #[.int .i64 kx.k, .int .i64 kx.f, .int .i64 kx.t, .int .i64 kx.a, .int .i64 kx.c, .int .i64 kx.s] 36))); clear a0 a1 a2 a3 a4 a5 cM hbl)
              | (at_builtin; go_loud (refine wpList_append_lies _ rfl _ _ 22 rfl B1 36 i0 (.agg #[.int .i64 0, .int .i64 0, .int .i64 0, .int .i64 0, .int .i64 0, .int .i64 0]) 6 48 Try.underlying22 HIN.out.1 HIN.out.2.1 HIN.out.2.2.1 HIN.out.2.2.2 rfl (by decide) _ _ _ rfl (HT6.out.t.alloc _) ⟨_, 0, none⟩ 1 1 (pc gx) rfl rfl ?c1 ?c2 (by decide) ?c3 ?c4 ?c5 _ rfl ?_)))
            case c1 => exact pc_at _ gx _ (by simp)
            case c2 => exact pc_one gx
            case c3 => unfold maxLen; omega
            case c4 => omega
            case c5 => have := HT6.out.size; simp at this ⊢; omega
            intro g2 cap2 wk hown hgrow hat hlt6
            have HY : Hid (wk.heap[w5.heap.size + 1]? = some (.cells #[.int .i64 kx.k, .int .i64 kx.f, .int .i64 kx.t, .int .i64 kx.a, .int .i64 kx.c, .int .i64 kx.s] 36 (0, 0))) := hid (by
              rw [hgrow.block _ (by simp) (fun e => by have := (HT5.out.t.lt _ e.symm).2; omega)]
              have h := heap_new (w5.alloc (.cells #[.int .i64 gx.k, .int .i64 gx.f, .int .i64 gx.t, .int .i64 gx.a, .int .i64 gx.c, .int .i64 gx.s] 36)) (.cells #[.int .i64 kx.k, .int .i64 kx.f, .int .i64 kx.t, .int .i64 kx.a, .int .i64 kx.c, .int .i64 kx.s] 36)
              have hs : (w5.alloc (.cells #[.int .i64 gx.k, .int .i64 gx.f, .int .i64 gx.t, .int .i64 gx.a, .int .i64 gx.c, .int .i64 gx.s] 36)).heap.size = w5.heap.size + 1 := by simp
              rw [hs] at h
              exact (((Below.refl _ _).alloc (Nat.le_refl _) _).block _ (by simp)).trans h)
            have HK := hid (HT6.out.app (x := gx) hown hgrow (by simpa using hat))
            have HFT : Hid (tkn P C (i + 1) = tkn P C i ++ [gx]) := hid (by rw [tkn_yes (by rw [← HGC.out]; exact hg), HGX.out])
            have HNT : Hid ((tkn P C i).length + 1 = (tkn P C (i + 1)).length) := hid (by rw [HFT.out, List.length_append]; rfl)
            clear hown hgrow hat hlt6 hg HT6 HT5 HT HS1
            have cY : wk.cell? ⟨w5.heap.size + 1, 4, none⟩ = some (.int .i64 kx.c) := cell_of_row _ _ 4 _ _ _ HY.out
            have cY0 : wk.cell? ⟨w5.heap.size + 1, 0, none⟩ = some (.int .i64 kx.k) := cell_of_row _ _ 0 _ _ _ HY.out
            have cY1 : wk.cell? ⟨w5.heap.size + 1, 1, none⟩ = some (.int .i64 kx.f) := cell_of_row _ _ 1 _ _ _ HY.out
            have cY2 : wk.cell? ⟨w5.heap.size + 1, 2, none⟩ = some (.int .i64 kx.t) := cell_of_row _ _ 2 _ _ _ HY.out
            have cY3 : wk.cell? ⟨w5.heap.size + 1, 3, none⟩ = some (.int .i64 kx.a) := cell_of_row _ _ 3 _ _ _ HY.out
            have cY5 : wk.cell? ⟨w5.heap.size + 1, 5, none⟩ = some (.int .i64 kx.s) := cell_of_row _ _ 5 _ _ _ HY.out
            by_cases hk : 0 < kx.c
            · have hAT := hid (rfl : wk.heap.size = wk.heap.size)
              go_wp2_with (at_builtin; refine wpList_append_lies _ rfl _ _ 22 rfl B1 36 i0 (.agg #[.int .i64 0, .int .i64 0, .int .i64 0, .int .i64 0, .int .i64 0, .int .i64 0]) 6 48 Try.underlying22 HIN.out.1 HIN.out.2.1 HIN.out.2.2.1 HIN.out.2.2.2 rfl (by decide) _ _ _ rfl (HK.out.l.alloc _) ⟨_, 0, none⟩ 1 1 (pc kx) rfl rfl ?c1 ?c2 (by decide) ?c3 ?c4 ?c5 _ rfl ?_)
              case c1 => first | exact pc_at _ kx _ rfl | exact fun _ _ h => h
              case c2 => exact pc_one kx
              case c3 => unfold maxLen; omega
              case c4 => omega
              case c5 => have := HK.out.size; simp at this ⊢; omega
              intro g3 cap3 w8 hown hgrow hat hlt6
              have HT8 := hid (HK.out.swap.app (x := kx) hown hgrow (by simpa using hat)).swap
              have HFE : Hid (lft P C (i + 1) = lft P C i ++ [kx]) := hid (by rw [lft_yes (by rw [← HKC.out]; exact hk), HKX.out])
              clear hown hgrow hat hlt6 HK cY cY0 cY1 cY2 cY3 cY5 hk
              go_wp2_with fail
              go_roundw
              case rel => exact ⟨i + 1, _, _, _, _, _, _, by omega, by go_num, rfl, rfl, hid ⟨HNT.out, by rw [HFE.out, List.length_append]; rfl, by rw [HFT.out, HFE.out]; exact HT8.out⟩⟩
              case measure => simp [intOf]; omega
            · have HFE : Hid (lft P C (i + 1) = lft P C i) := hid (lft_no (by rw [← HKC.out]; exact hk))
              go_wp2_with fail
              go_roundw
              case rel => exact ⟨i + 1, _, _, _, _, _, _, by omega, by go_num, rfl, rfl, hid ⟨HNT.out, by rw [HFE.out], by rw [HFT.out, HFE.out]; exact HK.out⟩⟩
              case measure => simp [intOf]; omega
          · have hk : 0 < kx.c := by have h1 := HGC.out; have h2 := HKC.out; have := (HL.out.ok i hlt).c1; omega
            go_wp2_with (first
              | (go_at_call 56; refine (HS1.out _).mono ?_; rintro e w5 ⟨rfl, hb5⟩; have HT5 := hid (HT.out.stays hb5); have HT6 := hid ((HT5.out.stays ((Below.refl _ w5).alloc (Nat.le_refl _) (.cells #[.int .i64 gx.k, .int .i64 gx.f, .int .i64 gx.t, .int .i64 gx.a, .int .i64 gx.c, .int .i64 gx.s] 36))).stays ((Below.refl _ _).alloc (Nat.le_refl _) (.cells #[.int .i64 kx.k, .int .i64 kx.f, .int .i64 kx.t, .int .i64 kx.a, .int .i64 kx.c, .int .i64 kx.s] 36))); clear a0 a1 a2 a3 a4 a5 cM hbl)
              | (at_builtin; refine wpList_append_lies _ rfl _ _ 22 rfl B1 36 i0 (.agg #[.int .i64 0, .int .i64 0, .int .i64 0, .int .i64 0, .int .i64 0, .int .i64 0]) 6 48 Try.underlying22 HIN.out.1 HIN.out.2.1 HIN.out.2.2.1 HIN.out.2.2.2 rfl (by decide) _ _ _ rfl (HT6.out.l.alloc _) ⟨_, 0, none⟩ 1 1 (pc kx) rfl rfl ?c1 ?c2 (by decide) ?c3 ?c4 ?c5 _ rfl ?_))
            case c1 => exact pc_at _ kx _ (by simp)
            case c2 => exact pc_one kx
            case c3 => unfold maxLen; omega
            case c4 => omega
            case c5 => have := HT6.out.size; simp at this ⊢; omega
            intro g3 cap3 w8 hown hgrow hat hlt6
            have HT8 := hid (HT6.out.swap.app (x := kx) hown hgrow (by simpa using hat)).swap
            have HFT : Hid (tkn P C (i + 1) = tkn P C i) := hid (tkn_no (by rw [← HGC.out]; omega))
            have HFE : Hid (lft P C (i + 1) = lft P C i ++ [kx]) := hid (by rw [lft_yes (by rw [← HKC.out]; exact hk), HKX.out])
            have HNT : Hid ((tkn P C i).length = (tkn P C (i + 1)).length) := hid (by rw [HFT.out])
            clear hown hgrow hat hlt6 HT6 HT5 HT HS1 hk
            go_wp2_with fail
            go_roundw
            case rel => exact ⟨i + 1, _, _, _, _, _, _, by omega, by go_num, rfl, rfl, hid ⟨HNT.out, by rw [HFE.out, List.length_append]; rfl, by rw [HFT.out, HFE.out]; exact HT8.out⟩⟩
            case measure => simp [intOf]; omega
        · obtain rfl : n = i := by omega
          go_wp2_with fail
          go_ret3
          exact ⟨_, _, _, _, _, _, 0, rfl, HFIN.out, by rw [HBW.out]; exact HS.out.2.2.down HB2.out HB1.out.2.1⟩
  · have hb : (er == 0) = false := by simpa using h0
    have HE0 := hid h0
    go_enter Try.func30, Try.ntmps30
    go_wp2_with fail
    refine H1.out.mono ?_
    rintro e w1 ⟨rfl, hb1⟩
    have HB := hid hb1
    clear hb1 H1
    go_wp2_with fail
    go_ret3
    exact ⟨[], [], none, 0, none, 0, er, rfl, .inl ⟨by rw [HER.out]; exact HE0.out, rfl, rfl, HER.out.symm⟩, TK.nil (by rw [HBW.out]; exact HB.out) (by rw [HBW.out]; have := HB.out.size; have := HBW.out; omega)⟩
end Go.Proofs.Ytnfcibcpmaehoaa
