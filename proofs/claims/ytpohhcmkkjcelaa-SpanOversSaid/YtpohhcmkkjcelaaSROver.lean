/-
  The walk of Over of the reference.
-/
import Derived.Test.YtpohhcmkkjcelaaSOver
namespace Go.Proofs.Ytpohhcmkkjcelaa
open Go.RowKit

set_option maxRecDepth 20000 in
set_option maxHeartbeats 12800000 in
theorem rover_to (W H : Int) (ao : Option Addr) (n cap : Nat) (Z : Nat → Int) (hn : n ≤ 9223372036854775807) (lo : Option Addr) (m lcap : Nat) (S : Nat → Sp) (hm : m ≤ 300) (t : Int) (L : List Sp) (e : Int) (h : OverIs W H n Z m S t L e) (w : World) (hI : Ints w ao n Z) (hS : SpansAt w lo m S) :
    Calls Try.prog 21 #[lv W H (.slice ao n cap), .slice lo m lcap, .int .i64 t] w fun r w' => ∃ v, r = .returned (.tuple #[v, .int .i64 e]) ∧ w'.ownsRow w.heap.size 26 4 v L.length (encL L) ∧ Below w.heap.size w w' := by
  have HM := hid (lb_start (W := W) (H := H) (cap := cap) hI)
  have HS := hid hS
  have HI := hid hI
  have hm0 : (0 : Int) ≤ (m : Int) := by omega
  obtain ⟨i0, hi, hz0, hz1, hz2⟩ := info_parts infoS
  have HIN := hid (And.intro hi (And.intro hz0 (And.intro hz1 hz2)))
  clear hi hz0 hz1 hz2
  clear hI hS
  cases h with
  | list e h0 hv =>
    have HV := hid hv
    have g : (e != 0) = true := by simpa using h0
    have g2 : (e == 0) = false := by simpa using h0
    clear hv
    go_enter Try.func21, Try.ntmps21
    go_upto_region 1 with fail
    generalize World.alloc w _ = wm at HM ⊢
    have c0 := HM.out.c0; have c1 := HM.out.c1; have c2 := HM.out.c2; have hz := HM.out.size
    go_wp2_with (go_at_call 35; (with_reducible refine (listError_to W H ao n cap Z hn lo m lcap S hm e HV.out _ HM.out.ints (HS.out.stays HM.out.below)).mono ?_); rintro e w1 ⟨rfl, hb⟩; have HN := hid (HM.out.stays hb); clear hb c0 c1 c2 hz HM; have HM := HN; clear HN; have c0 := HM.out.c0; have c1 := HM.out.c1; have c2 := HM.out.c2; have hz := HM.out.size)
    go_ret2
    exact ⟨_, rfl, World.ownsRow_nil _ _ _ _, HM.out.below⟩
  | none hv ht =>
    have HV := hid hv
    obtain ⟨W, H, rfl, rfl, hg, ha, hr⟩ := hv.right
    obtain ⟨hW1, hW2, hH1, hH2⟩ := hg.side
    have hms := mul_small hW2 hH2
    rw [Int.toNat_natCast, Int.toNat_natCast] at ht
    have HT := hid ht
    obtain ⟨mm, hmm⟩ : ∃ m, m = W * H := ⟨_, rfl⟩
    have em : (W : Int) * (H : Int) = (mm : Int) := by rw [hmm]; simp
    unfold Tl at ht
    rw [← hmm] at ht hms
    have ht2 : t < 0 ∨ (0 ≤ t ∧ (mm : Int) ≤ t) := by omega
    clear hv hg ha hr ht hmm
    rcases ht2 with ht2 | ⟨ht2, ht3⟩
    all_goals
      go_enter Try.func21, Try.ntmps21
      go_upto_region 1 with fail
      generalize World.alloc w _ = wm at HM ⊢
      have c0 := HM.out.c0; have c1 := HM.out.c1; have c2 := HM.out.c2; have hz := HM.out.size
      go_wp2_with (first | (go_at_call 35; (with_reducible refine (listError_to W H ao n cap Z hn lo m lcap S hm 0 HV.out _ HM.out.ints (HS.out.stays HM.out.below)).mono ?_); rintro e w1 ⟨rfl, hb⟩; have HN := hid (HM.out.stays hb); clear hb c0 c1 c2 hz HM; have HM := HN; clear HN; have c0 := HM.out.c0; have c1 := HM.out.c1; have c2 := HM.out.c2; have hz := HM.out.size))
      go_ret2
      exact ⟨_, rfl, World.ownsRow_nil _ _ _ _, HM.out.below⟩
  | ok ov hv ht hov =>
    have HV := hid hv
    obtain ⟨W, H, rfl, rfl, hg, ha, hr⟩ := hv.right
    obtain ⟨hW1, hW2, hH1, hH2⟩ := hg.side
    have hms := mul_small hW2 hH2
    rw [Int.toNat_natCast, Int.toNat_natCast] at ht
    rw [Int.toNat_natCast] at hov
    have HT := hid ht
    have HOV := hid hov
    have HR := hid hr
    obtain ⟨mm, hmm⟩ : ∃ m, m = W * H := ⟨_, rfl⟩
    have em : (W : Int) * (H : Int) = (mm : Int) := by rw [hmm]; simp
    unfold Tl at ht
    have hms' := hms
    rw [← hmm] at ht hms
    obtain ⟨ht1, ht2⟩ := ht
    clear hv hg ha hr hmm hov
    go_enter Try.func21, Try.ntmps21
    go_upto_region 1 with fail
    generalize World.alloc w _ = wm at HM ⊢
    have c0 := HM.out.c0; have c1 := HM.out.c1; have c2 := HM.out.c2; have hz := HM.out.size
    go_upto_region 6 with (first | (go_at_call 35; (with_reducible refine (listError_to W H ao n cap Z hn lo m lcap S hm 0 HV.out _ HM.out.ints (HS.out.stays HM.out.below)).mono ?_); rintro e w1 ⟨rfl, hb⟩; have HN := hid (HM.out.stays hb); clear hb c0 c1 c2 hz HM; have HM := HN; clear HN; have c0 := HM.out.c0; have c1 := HM.out.c1; have c2 := HM.out.c2; have hz := HM.out.size))
    have HN : Hid (OV W H ao n cap Z (ovL ov S 0) (.slice none 0 0) w _) := hid ⟨HM.out, World.ownsRow_nil _ _ _ _⟩
    clear c0 c1 c2 hz HM
    go_wp2_with fail
    go_loopw [9, 10] (fun v iv wr => ∃ i : Nat, i ≤ m ∧ iv = .int .i64 i ∧ Hid (OV W H ao n cap Z (ovL ov S i) v w wr)) (fun _ iv _ => m - (intOf iv).toNat)
    case atStart => exact ⟨0, Nat.zero_le _, rfl, HN⟩
    case round =>
      obtain ⟨i, hi, rfl, hB⟩ := hrel
      clear HN
      by_cases hlt : i < m
      · obtain ⟨bl, off, rfl, hbz, q0, q1, q2, q3⟩ := HS.out i hlt
        obtain ⟨p, q, e1, e2, hrt⟩ := (HR.out i hlt).right
        obtain ⟨k, hkk⟩ : ∃ k, k = (S i).k := ⟨_, rfl⟩
        obtain ⟨u, hu⟩ : ∃ u, u = (S i).u := ⟨_, rfl⟩
        obtain ⟨y, hy⟩ : ∃ y, y = off + i * 4 := ⟨_, rfl⟩
        have ey : off + i * 4 = y := hy.symm
        rw [ey] at q0 q1 q2 q3
        rw [e1] at q1
        rw [e2] at q2
        rw [← hkk] at q0
        rw [← hu] at q3
        have hp2 : p ≤ 1024 := by have := hrt.ha; omega
        have hq2 : q ≤ 1024 := by have := hrt.hb; omega
        have HL := hid hrt.line
        have HSI : Hid (sc4 (S i) = [.int .i64 k, .int .i64 p, .int .i64 q, .int .i64 u]) := hid (by unfold sc4; rw [← hkk, e1, e2, ← hu])
        have hlen := ovL_len ov S i
        have D := hid (And.intro q0 (And.intro q1 (And.intro q2 q3)))
        have HMID : Hid (ov i = true ↔ Mid W p q t) := hid (by
          rw [HOV.out]
          constructor
          · rintro ⟨p', q', e1', e2', h⟩
            obtain rfl : p' = p := by omega
            obtain rfl : q' = q := by omega
            exact h
          · exact fun h => ⟨p, q, e1, e2, h⟩)
        have hi0 : (0 : Int) ≤ (i : Int) := by omega
        have hi1 : (i : Int) < (m : Int) := by omega
        have HO : Hid (ovL ov S (i + 1) = if ov i then ovL ov S i ++ [S i] else ovL ov S i) := hid rfl
        obtain ⟨r, hrr⟩ : ∃ r, r = ov i := ⟨_, rfl⟩
        rw [← hrr] at HMID HO
        generalize ovL ov S i = LL at HO hB hlen
        clear q0 q1 q2 q3 e1 e2 hkk hu hy hrt hrr
        obtain ⟨d, hd⟩ : ∃ d, d = stp W p q := ⟨_, rfl⟩
        obtain ⟨cc, hcc⟩ : ∃ c, c = cnt d p q := ⟨_, rfl⟩
        have HD := hid hd
        have HCN := hid hcc
        have hc2 : cc ≤ 2000 := by rw [hcc]; unfold cnt; exact Nat.le_trans (Nat.div_le_self _ _) (by omega)
        have HIN2 : Hid (r = true ↔ ∃ i, i < cc ∧ t = tl p d i) := hid (by rw [HMID.out, hcc, hd]; rfl)
        clear hd hcc
        go_upto_region 10 with fail
        refine wp_region_held_drew (S := (fun wr => OV W H ao n cap Z LL u9 w wr ∧ wr.cell? ⟨w.heap.size, 0, none⟩ = some (.int .i64 W) ∧ wr.cell? ⟨w.heap.size, 1, none⟩ = some (.int .i64 H) ∧ wr.cell? ⟨w.heap.size, 2, none⟩ = some (.slice ao n cap) ∧ wr.cell? ⟨bl, y, none⟩ = some (.int .i64 k) ∧ wr.cell? ⟨bl, y + 1, none⟩ = some (.int .i64 p) ∧ wr.cell? ⟨bl, y + 2, none⟩ = some (.int .i64 q) ∧ wr.cell? ⟨bl, y + 3, none⟩ = some (.int .i64 u))) (by kernel_rfl) (ov_keep hbz D.out (And.intro hB.out trivial) ((Below.refl _ _).drew)) (fun hHeld => ?_)
        refine wpAnyH_take (i := 0) (oi := { dst := some 34, op := Op.load 24 (Operand.tmp 3), type := 24, pos := "ref.go:230", after := #[], guard := none }) (v := ?_) rfl (by kernel_rfl) (by kernel_rfl) (by kernel_rfl) (fun _ _ _ h => h) (Or.inl ⟨by rfl, ?_⟩) (by assumption) ?_
        rotate_left
        · intro w hSw; (try dsimp only at hSw); go_simp; try (with_reducible rfl)
        try simp only [Act.put, List.setIfInBounds_toArray, List.set_cons_zero, List.set_cons_succ]
        refine wpAnyH_take (i := 1) (oi := { dst := some 35, op := Op.move (Operand.tmp 1), type := 34, pos := "ref.go:230", after := #[], guard := none }) (v := ?_) rfl (by kernel_rfl) (by kernel_rfl) (by kernel_rfl) (fun _ _ _ h => h) (Or.inl ⟨by rfl, ?_⟩) (by assumption) ?_
        rotate_left
        · intro w hSw; (try dsimp only at hSw); go_simp; try (with_reducible rfl)
        try simp only [Act.put, List.setIfInBounds_toArray, List.set_cons_zero, List.set_cons_succ]
        refine wpAnyH_take (i := 2) (oi := { dst := some 36, op := Op.move (Operand.tmp 10), type := 3, pos := "ref.go:230", after := #[], guard := none }) (v := ?_) rfl (by kernel_rfl) (by kernel_rfl) (by kernel_rfl) (fun _ _ _ h => h) (Or.inl ⟨by rfl, ?_⟩) (by assumption) ?_
        rotate_left
        · intro w hSw; (try dsimp only at hSw); go_simp; try (with_reducible rfl)
        try simp only [Act.put, List.setIfInBounds_toArray, List.set_cons_zero, List.set_cons_succ]
        refine wpAnyH_take (i := 3) (oi := { dst := some 37, op := Op.indexAddr 34 (Operand.tmp 35) (Operand.tmp 36), type := 0, pos := "ref.go:230", after := #[{ on := 1, ground := Ground.data }, { on := 2, ground := Ground.data }], guard := none }) (v := ?_) rfl (by kernel_rfl) (by kernel_rfl) (by kernel_rfl) (fun _ _ _ h => h) (Or.inl ⟨by rfl, ?_⟩) (by assumption) ?_
        rotate_left
        · intro w hSw; (try dsimp only at hSw); go_simp; try (with_reducible rfl)
        try simp only [Act.put, List.setIfInBounds_toArray, List.set_cons_zero, List.set_cons_succ]
        refine wpAnyH_take (i := 4) (oi := { dst := some 38, op := Op.load 26 (Operand.tmp 37), type := 26, pos := "ref.go:230", after := #[{ on := 3, ground := Ground.data }], guard := none }) (v := ?_) rfl (by kernel_rfl) (by kernel_rfl) (by kernel_rfl) (fun _ _ _ h => h) (Or.inl ⟨by rfl, ?_⟩) (by assumption) ?_
        rotate_left
        · intro w hSw; (try dsimp only at hSw); go_simp; try (with_reducible rfl)
        try simp only [Act.put, List.setIfInBounds_toArray, List.set_cons_zero, List.set_cons_succ]
        refine wpAnyH_take (i := 6) (oi := { dst := some 40, op := Op.move (Operand.tmp 2), type := 3, pos := "ref.go:230", after := #[], guard := none }) (v := ?_) rfl (by kernel_rfl) (by kernel_rfl) (by kernel_rfl) (fun _ _ _ h => h) (Or.inl ⟨by rfl, ?_⟩) (by assumption) ?_
        rotate_left
        · intro w hSw; (try dsimp only at hSw); go_simp; try (with_reducible rfl)
        try simp only [Act.put, List.setIfInBounds_toArray, List.set_cons_zero, List.set_cons_succ]
        refine wpAnyH_ready (rs := [5]) (by kernel_rfl) (by simp) ?_
        refine AllReadyH.cons (o := { dst := some 39, op := Op.call { callee := Callee.value (Operand.func 43), args := #[Operand.tmp 34, Operand.tmp 38], argTypes := #[24, 26] }, type := 22, pos := "ref.go:230", after := #[{ on := 0, ground := Ground.data }, { on := 4, ground := Ground.data }], guard := none }) rfl (fun K hK => ?_) AllReadyH.nil
        go_simp
        refine (between_to hW1 hW2 ao n cap Z k u p q hp2 hq2 HL.out d cc HD.out HCN.out _ (ov_ints (by assumption))).mono ?_
        rintro r' w' ⟨vv, rfl, hrow, hb⟩
        obtain ⟨vo, vc, rfl⟩ := row_slice hrow
        try go_wp2_with fail
        refine hK.out _ _ (ov_keep hbz D.out (by assumption) hb) (fun hHeld2 => ?_)
        clear hK K
        try simp only [Act.put, List.setIfInBounds_toArray, List.set_cons_zero, List.set_cons_succ]
        refine wpAnyH_ready (rs := [7]) (by kernel_rfl) (by simp) ?_
        refine AllReadyH.cons (o := { dst := some 41, op := Op.call { callee := Callee.value (Operand.func 42), args := #[Operand.tmp 39, Operand.tmp 40], argTypes := #[22, 3] }, type := 4, pos := "ref.go:230", after := #[{ on := 5, ground := Ground.data }, { on := 6, ground := Ground.data }, { on := 5, ground := Ground.chain }], guard := none }) rfl (fun K hK => ?_) AllReadyH.nil
        go_simp
        refine (in_any vo cc vc _ p d t r hc2 HIN2.out _ hrow).mono ?_
        rintro r' w' ⟨rfl, hb⟩
        try go_wp2_with fail
        refine hK.out _ _ (ov_keep hbz D.out (by assumption) hb) (fun hHeld3 => ?_)
        clear hK K
        try simp only [Act.put, List.setIfInBounds_toArray, List.set_cons_zero, List.set_cons_succ]
        refine wpAnyH_done (by kernel_rfl) ?_ _
        have HZ := hid (ov_of (by assumption))
        clear hrow hB
        obtain ⟨wz, hwz⟩ : ∃ wz, wz = w' := ⟨_, rfl⟩
        rw [← hwz] at HZ ⊢
        clear hwz
        obtain ⟨_, c0, c1, c2, x0, x1, x2, x3⟩ := ov_keep hbz D.out (And.intro HZ.out trivial) (Below.refl _ _)
        have hz := HZ.out.lb.size
        have hbz2 : bl < wz.heap.size := by have := HZ.out.lb.below.size; omega
        cases r
        · have HO2 : Hid (ovL ov S (i + 1) = LL) := hid (by rw [HO.out]; rfl)
          go_wp2_with fail
          go_roundw
          case rel => exact ⟨i + 1, by omega, by go_num, by rw [HO2.out]; exact HZ⟩
          case measure => simp [intOf]; omega
        · have HO2 : Hid (ovL ov S (i + 1) = LL ++ [S i]) := hid (by rw [HO.out]; rfl)
          go_wp2_with (at_builtin; refine wpList_append_own _ rfl _ _ 34 rfl (w.heap.size + 1) 26 i0 (.agg #[.int .i64 0, .int .i64 0, .int .i64 0, .int .i64 0]) 4 32 Try.underlying34 HIN.out.1 HIN.out.2.1 HIN.out.2.2.1 HIN.out.2.2.2 rfl (by decide) _ _ _ rfl (HZ.out.row.alloc _) ⟨wz.heap.size, 0, none⟩ 1 1 [.int .i64 k, .int .i64 p, .int .i64 q, .int .i64 u] rfl rfl ?c1 ?c2 ?c3 ?c4 ?c5 ?_)
          try (case c1 =>
            intro j u hj
            match j, hj with
            | 0, hj => simp at hj; subst hj; simp [Addr.add]
            | 1, hj => simp at hj; subst hj; simp [Addr.add]
            | 2, hj => simp at hj; subst hj; simp [Addr.add]
            | 3, hj => simp at hj; subst hj; simp [Addr.add])
          case c2 => first | exact ⟨rfl, rfl, rfl, rfl⟩ | (intro u hu; simp at hu; rcases hu with rfl | rfl | rfl | rfl <;> rfl)
          case c3 => first | (unfold maxLen; omega) | omega
          case c4 => omega
          case c5 => first | omega | (simp; omega)
          intro v' w5 hown hgrow _
          have H5 := hid (OV.app (v' := v') (w' := w5) (x := S i) HI.out HZ.out _ hgrow (by rw [HSI.out]; exact hown))
          clear hown hgrow
          go_wp2_with fail
          go_roundw
          case rel => exact ⟨i + 1, by omega, by go_num, by rw [HO2.out]; exact H5⟩
          case measure => simp [intOf]; omega
      · obtain rfl : i = m := by omega
        go_wp2_with fail
        go_ret2
        exact ⟨_, rfl, row_mono hB.out.row (by omega), hB.out.lb.below⟩
end Go.Proofs.Ytpohhcmkkjcelaa
